/- Ladders that are read back: by the program and by the model alike. -/
import Derived.Test.YtohlbnfncllhoaaDoorC6
import Derived.Test.YtohlbnfncllhoaaDoorC5
import Derived.Test.YtohlbnfncllhoaaDoorT5
import Derived.Test.YtohlbnfncllhoaaDoorT6
namespace Go.Proofs.YtohlbnfncllhoaaDoor
open Go.RowKit
/-- the ladders with a text, or zero -/
def Read (s : ByteArray) (a b c : Int) (ok : Bool) : Prop := Parsed s a b c ok ∧ (ok = false → a = 0 ∧ b = 0 ∧ c = 0)
theorem read_unique {s : ByteArray} {a b c a' b' c' : Int} {ok ok' : Bool} (h : Read s a b c ok) (h' : Read s a' b' c' ok') : a = a' ∧ b = b' ∧ c = c' ∧ ok = ok' := by
  obtain ⟨⟨h1, h2⟩, h3⟩ := h
  obtain ⟨⟨h1', h2'⟩, h3'⟩ := h'
  cases ok <;> cases ok'
  · obtain ⟨rfl, rfl, rfl⟩ := h3 rfl
    obtain ⟨rfl, rfl, rfl⟩ := h3' rfl
    exact ⟨rfl, rfl, rfl, rfl⟩
  · obtain ⟨q1, q2⟩ := h1' rfl
    exact absurd (h2 _ _ _ q1 q2) (by simp)
  · obtain ⟨q1, q2⟩ := h1 rfl
    exact absurd (h2' _ _ _ q1 q2) (by simp)
  · obtain ⟨q1, q2⟩ := h1 rfl
    obtain ⟨q1', q2'⟩ := h1' rfl
    obtain ⟨e1, e2, e3⟩ := txt_inj q1 q1' (q2.trans q2'.symm)
    exact ⟨e1, e2, e3, rfl⟩

def cutA (s : ByteArray) (b : UInt8) : ByteArray := ⟨(Lib.cut s.data.toList [b]).1.toArray⟩
def cutB (s : ByteArray) (b : UInt8) : ByteArray := ⟨(Lib.cut s.data.toList [b]).2.1.toArray⟩
theorem cut_size (s : ByteArray) (b : UInt8) : (cutA s b).size ≤ s.size ∧ (cutB s b).size ≤ s.size := by
  have hl : s.data.toList.length = s.size := by rw [Array.length_toList]; rfl
  have h1 : (cutA s b).size = (Lib.cut s.data.toList [b]).1.length := rfl
  have h2 : (cutB s b).size = (Lib.cut s.data.toList [b]).2.1.length := rfl
  rw [h1, h2, ← hl]
  unfold Lib.cut
  split
  · simp only [List.length_take, List.length_drop]; omega
  · simp
theorem cut_any (s : ByteArray) (b : UInt8) (hs : s.size ≤ 1048576) (w : World) (h : w.ShapedOpen Tryd.prog) :
    Calls Tryd.prog 46 #[.string s, .string ⟨#[b]⟩] w fun e w' => e = .returned (.tuple #[.string (cutA s b), .string (cutB s b), .bool (Lib.cut s.data.toList [b]).2.2]) ∧ ∃ n, w' = w.drewN n :=
  Tryd.strings_Cut_shaped s ⟨#[b]⟩ w h (by omega)
theorem pn_nil : pnB ⟨#[]⟩ = false := by
  cases h : pnB ⟨#[]⟩
  · rfl
  · have := (pn_sound h).2
    exact absurd this.symm (digits_ne _)
/-- the parts read as numbers -/
theorem parts_sound {s : ByteArray} (h1 : pnB (cutA s 58) = true) (h2 : pnB (cutA (cutB s 58) 47) = true) (h3 : pnB (cutB (cutB s 58) 47) = true) :
    txt (pnV (cutA s 58)) (pnV (cutA (cutB s 58) 47)) (pnV (cutB (cutB s 58) 47)) = s := by
  obtain ⟨p1, e1⟩ := pn_sound h1
  obtain ⟨p2, e2⟩ := pn_sound h2
  obtain ⟨p3, e3⟩ := pn_sound h3
  apply bytes_eq
  rw [txt_list _ _ _ p1 p2 p3, ← e1, ← e2, ← e3]
  have key : ∀ (t : ByteArray) (b : UInt8), (cutB t b).data.toList ≠ [] → t.data.toList = (cutA t b).data.toList ++ b :: (cutB t b).data.toList := by
    intro t b hne
    have ha : (cutA t b).data.toList = (Lib.cut t.data.toList [b]).1 := by simp [cutA]
    have hb : (cutB t b).data.toList = (Lib.cut t.data.toList [b]).2.1 := by simp [cutB]
    rw [ha, hb]
    rw [hb] at hne
    rcases hq : Lib.cut t.data.toList [b] with ⟨x, y, f⟩
    rw [hq] at hne
    cases f
    · exact absurd (cut_lost hq).2 hne
    · exact cut_found hq
  have n3 : (cutB (cutB s 58) 47).data.toList ≠ [] := by rw [e3]; exact digits_ne _
  have k2 := key (cutB s 58) 47 n3
  have k1 := key s 58 (by rw [k2]; simp)
  rw [← k2, ← k1]
theorem parts_complete {s : ByteArray} {a b c : Int} (h : okL a b c = true) (e : txt a b c = s) :
    (pnB (cutA s 58) = true ∧ pnB (cutA (cutB s 58) 47) = true ∧ pnB (cutB (cutB s 58) 47) = true) ∧ pnV (cutA s 58) = a ∧ pnV (cutA (cutB s 58) 47) = b ∧ pnV (cutB (cutB s 58) 47) = c := by
  obtain ⟨x, y, z, ⟨rfl, rfl, rfl⟩, ⟨l1, l2, l3⟩, e1, n1, n2, n3, n4, _⟩ := txt_parts h
  rw [e] at e1
  have q1 := cut_hit (y := Lib.decDigits y ++ 47 :: Lib.decDigits z) n1
  rw [← e1] at q1
  have a1 : (cutA s 58).data.toList = Lib.decDigits x := by simp [cutA, q1]
  have b1 : (cutB s 58).data.toList = Lib.decDigits y ++ 47 :: Lib.decDigits z := by simp [cutB, q1]
  have q2 := cut_hit (y := Lib.decDigits z) n3
  rw [← b1] at q2
  have a2 : (cutA (cutB s 58) 47).data.toList = Lib.decDigits y := by simp [cutA, q2]
  have b2 : (cutB (cutB s 58) 47).data.toList = Lib.decDigits z := by
    show (Lib.cut (cutB s 58).data.toList [47]).2.1 = _
    rw [q2]
  obtain ⟨r1, s1⟩ := pn_complete l1 a1
  obtain ⟨r2, s2⟩ := pn_complete l2 a2
  obtain ⟨r3, s3⟩ := pn_complete l3 b2
  exact ⟨⟨r1, r2, r3⟩, s1, s2, s3⟩
def plB (s : ByteArray) : Bool := (pnB (cutA s 58) && (pnB (cutA (cutB s 58) 47) && pnB (cutB (cutB s 58) 47))) && okL (pnV (cutA s 58)) (pnV (cutA (cutB s 58) 47)) (pnV (cutB (cutB s 58) 47))
theorem pl_read (s : ByteArray) : Read s (Z (plB s) (pnV (cutA s 58))) (Z (plB s) (pnV (cutA (cutB s 58) 47))) (Z (plB s) (pnV (cutB (cutB s 58) 47))) (plB s) := by
  refine ⟨⟨fun h => ?_, fun a b c h e => ?_⟩, fun h => by simp [Z, h]⟩
  · have h' := h
    simp only [plB, Bool.and_eq_true] at h'
    simp only [Z, h, if_true]
    exact ⟨h'.2, parts_sound h'.1.1 h'.1.2.1 h'.1.2.2⟩
  · obtain ⟨⟨h1, h2, h3⟩, e1, e2, e3⟩ := parts_complete h e
    rw [plB, h1, h2, h3, e1, e2, e3, h]; rfl
end Go.Proofs.YtohlbnfncllhoaaDoor

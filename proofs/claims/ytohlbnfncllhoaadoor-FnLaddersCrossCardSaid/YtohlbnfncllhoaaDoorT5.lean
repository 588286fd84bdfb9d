/- Ladders that are read back, by the model. -/
import Derived.Test.YtohlbnfncllhoaaDoorT4
import Derived.Deep.Cut
import Derived.Deep.DeepCutAuto
import Derived.Deep.RegionLaw
namespace Go.Proofs.YtohlbnfncllhoaaDoor
open Go.RowKit
theorem frozen_after {u v : World} (hb : Below u.heap.size u v) {n o : Nat} (hn : n < u.heap.size) (hu : u.frozen? ⟨n, o, none⟩ = false) : v.frozen? ⟨n, o, none⟩ = false := by
  rw [(bcell hb).2 _ _ hn]; exact hu
theorem S7_after {a u v : World} {g q : Nat} {x y z : Value} (hb : Below u.heap.size u v) (h : u.cell? ⟨g, 0, none⟩ = some (x) ∧ u.cell? ⟨q, 0, none⟩ = some (y) ∧ u.cell? ⟨q, 1, none⟩ = some (z) ∧ g < u.heap.size ∧ q < u.heap.size ∧ Below a.heap.size a u) : v.cell? ⟨g, 0, none⟩ = some (x) ∧ v.cell? ⟨q, 0, none⟩ = some (y) ∧ v.cell? ⟨q, 1, none⟩ = some (z) ∧ g < v.heap.size ∧ q < v.heap.size ∧ Below a.heap.size a v :=
  ⟨cell_after hb (h.2.2.2.1) (h.1), cell_after hb (h.2.2.2.2.1) (h.2.1), cell_after hb (h.2.2.2.2.1) (h.2.2.1), size_after hb (h.2.2.2.1), size_after hb (h.2.2.2.2.1), bl_trans hb (h.2.2.2.2.2)⟩
theorem S8_after {a u v : World} {q r : Nat} {i j k x y z : Value} (hb : Below u.heap.size u v) (h : u.cell? ⟨q, 0, none⟩ = some (x) ∧ u.cell? ⟨q, 1, none⟩ = some (y) ∧ u.cell? ⟨q, 2, none⟩ = some (z) ∧ u.cell? ⟨r, 0, none⟩ = some (i) ∧ u.cell? ⟨r, 1, none⟩ = some (j) ∧ u.cell? ⟨r, 2, none⟩ = some (k) ∧ u.frozen? ⟨r, 0, none⟩ = false ∧ u.frozen? ⟨r, 1, none⟩ = false ∧ u.frozen? ⟨r, 2, none⟩ = false ∧ q < u.heap.size ∧ r < u.heap.size ∧ Below a.heap.size a u) : v.cell? ⟨q, 0, none⟩ = some (x) ∧ v.cell? ⟨q, 1, none⟩ = some (y) ∧ v.cell? ⟨q, 2, none⟩ = some (z) ∧ v.cell? ⟨r, 0, none⟩ = some (i) ∧ v.cell? ⟨r, 1, none⟩ = some (j) ∧ v.cell? ⟨r, 2, none⟩ = some (k) ∧ v.frozen? ⟨r, 0, none⟩ = false ∧ v.frozen? ⟨r, 1, none⟩ = false ∧ v.frozen? ⟨r, 2, none⟩ = false ∧ q < v.heap.size ∧ r < v.heap.size ∧ Below a.heap.size a v :=
  ⟨cell_after hb (h.2.2.2.2.2.2.2.2.2.1) (h.1), cell_after hb (h.2.2.2.2.2.2.2.2.2.1) (h.2.1), cell_after hb (h.2.2.2.2.2.2.2.2.2.1) (h.2.2.1), cell_after hb (h.2.2.2.2.2.2.2.2.2.2.1) (h.2.2.2.1), cell_after hb (h.2.2.2.2.2.2.2.2.2.2.1) (h.2.2.2.2.1), cell_after hb (h.2.2.2.2.2.2.2.2.2.2.1) (h.2.2.2.2.2.1), frozen_after hb (h.2.2.2.2.2.2.2.2.2.2.1) (h.2.2.2.2.2.2.1), frozen_after hb (h.2.2.2.2.2.2.2.2.2.2.1) (h.2.2.2.2.2.2.2.1), frozen_after hb (h.2.2.2.2.2.2.2.2.2.2.1) (h.2.2.2.2.2.2.2.2.1), size_after hb (h.2.2.2.2.2.2.2.2.2.1), size_after hb (h.2.2.2.2.2.2.2.2.2.2.1), bl_trans hb (h.2.2.2.2.2.2.2.2.2.2.2)⟩

def vr (w : World) (b o : Nat) : Value := (w.cell? ⟨b, o, none⟩).getD (.bool false)
theorem vr_some {w : World} {b o : Nat} {x : Value} (h : w.cell? ⟨b, o, none⟩ = some x) : w.cell? ⟨b, o, none⟩ = some (vr w b o) := by rw [vr, h]; rfl
theorem vr_after {u v : World} (hb : Below u.heap.size u v) {n o : Nat} (hn : n < u.heap.size) (hu : u.cell? ⟨n, o, none⟩ = some (vr u n o)) : v.cell? ⟨n, o, none⟩ = some (vr v n o) :=
  vr_some (cell_after hb hn hu)
theorem vr_set {u : World} {p : Addr} {b o : Nat} {x : Value} (h : u.cell? ⟨b, o, none⟩ = some (vr u b o)) : (u.setCell p x).cell? ⟨b, o, none⟩ = some (vr (u.setCell p x) b o) := by
  obtain ⟨v', hv⟩ := cell?_setCell_some (w := u) (p := p) (x := x) (q := ⟨b, o, none⟩) h
  exact vr_some hv
theorem S9_after {w u v : World} {q : Nat} {x y z : Value} (hb : Below u.heap.size u v) (h : u.cell? ⟨q, 0, none⟩ = some (x) ∧ u.cell? ⟨q, 1, none⟩ = some (y) ∧ u.cell? ⟨q, 2, none⟩ = some (z) ∧ u.cell? ⟨w.heap.size, 0, none⟩ = some (vr u w.heap.size 0) ∧ u.cell? ⟨w.heap.size, 1, none⟩ = some (vr u w.heap.size 1) ∧ u.cell? ⟨w.heap.size, 2, none⟩ = some (vr u w.heap.size 2) ∧ u.frozen? ⟨w.heap.size, 0, none⟩ = false ∧ u.frozen? ⟨w.heap.size, 1, none⟩ = false ∧ u.frozen? ⟨w.heap.size, 2, none⟩ = false ∧ q < u.heap.size ∧ w.heap.size < u.heap.size ∧ Below w.heap.size w u) : v.cell? ⟨q, 0, none⟩ = some (x) ∧ v.cell? ⟨q, 1, none⟩ = some (y) ∧ v.cell? ⟨q, 2, none⟩ = some (z) ∧ v.cell? ⟨w.heap.size, 0, none⟩ = some (vr v w.heap.size 0) ∧ v.cell? ⟨w.heap.size, 1, none⟩ = some (vr v w.heap.size 1) ∧ v.cell? ⟨w.heap.size, 2, none⟩ = some (vr v w.heap.size 2) ∧ v.frozen? ⟨w.heap.size, 0, none⟩ = false ∧ v.frozen? ⟨w.heap.size, 1, none⟩ = false ∧ v.frozen? ⟨w.heap.size, 2, none⟩ = false ∧ q < v.heap.size ∧ w.heap.size < v.heap.size ∧ Below w.heap.size w v :=
  ⟨cell_after hb h.2.2.2.2.2.2.2.2.2.1 h.1, cell_after hb h.2.2.2.2.2.2.2.2.2.1 h.2.1, cell_after hb h.2.2.2.2.2.2.2.2.2.1 h.2.2.1, vr_after hb h.2.2.2.2.2.2.2.2.2.2.1 h.2.2.2.1, vr_after hb h.2.2.2.2.2.2.2.2.2.2.1 h.2.2.2.2.1, vr_after hb h.2.2.2.2.2.2.2.2.2.2.1 h.2.2.2.2.2.1,
    frozen_after hb h.2.2.2.2.2.2.2.2.2.2.1 h.2.2.2.2.2.2.1, frozen_after hb h.2.2.2.2.2.2.2.2.2.2.1 h.2.2.2.2.2.2.2.1, frozen_after hb h.2.2.2.2.2.2.2.2.2.2.1 h.2.2.2.2.2.2.2.2.1, size_after hb h.2.2.2.2.2.2.2.2.2.1, size_after hb h.2.2.2.2.2.2.2.2.2.2.1, bl_trans hb h.2.2.2.2.2.2.2.2.2.2.2⟩
theorem S9_set {w u : World} {q o : Nat} {x y z val : Value} (hq : w.heap.size ≠ q) (h : u.cell? ⟨q, 0, none⟩ = some (x) ∧ u.cell? ⟨q, 1, none⟩ = some (y) ∧ u.cell? ⟨q, 2, none⟩ = some (z) ∧ u.cell? ⟨w.heap.size, 0, none⟩ = some (vr u w.heap.size 0) ∧ u.cell? ⟨w.heap.size, 1, none⟩ = some (vr u w.heap.size 1) ∧ u.cell? ⟨w.heap.size, 2, none⟩ = some (vr u w.heap.size 2) ∧ u.frozen? ⟨w.heap.size, 0, none⟩ = false ∧ u.frozen? ⟨w.heap.size, 1, none⟩ = false ∧ u.frozen? ⟨w.heap.size, 2, none⟩ = false ∧ q < u.heap.size ∧ w.heap.size < u.heap.size ∧ Below w.heap.size w u) : (u.setCell ⟨w.heap.size, o, none⟩ val).cell? ⟨q, 0, none⟩ = some (x) ∧ (u.setCell ⟨w.heap.size, o, none⟩ val).cell? ⟨q, 1, none⟩ = some (y) ∧ (u.setCell ⟨w.heap.size, o, none⟩ val).cell? ⟨q, 2, none⟩ = some (z) ∧ (u.setCell ⟨w.heap.size, o, none⟩ val).cell? ⟨w.heap.size, 0, none⟩ = some (vr ((u.setCell ⟨w.heap.size, o, none⟩ val)) w.heap.size 0) ∧ (u.setCell ⟨w.heap.size, o, none⟩ val).cell? ⟨w.heap.size, 1, none⟩ = some (vr ((u.setCell ⟨w.heap.size, o, none⟩ val)) w.heap.size 1) ∧ (u.setCell ⟨w.heap.size, o, none⟩ val).cell? ⟨w.heap.size, 2, none⟩ = some (vr ((u.setCell ⟨w.heap.size, o, none⟩ val)) w.heap.size 2) ∧ (u.setCell ⟨w.heap.size, o, none⟩ val).frozen? ⟨w.heap.size, 0, none⟩ = false ∧ (u.setCell ⟨w.heap.size, o, none⟩ val).frozen? ⟨w.heap.size, 1, none⟩ = false ∧ (u.setCell ⟨w.heap.size, o, none⟩ val).frozen? ⟨w.heap.size, 2, none⟩ = false ∧ q < (u.setCell ⟨w.heap.size, o, none⟩ val).heap.size ∧ w.heap.size < (u.setCell ⟨w.heap.size, o, none⟩ val).heap.size ∧ Below w.heap.size w (u.setCell ⟨w.heap.size, o, none⟩ val) := by
  have e : ∀ i, (⟨q, i, none⟩ : Addr) ≠ ⟨w.heap.size, o, none⟩ := fun i e => hq (by injection e with e1; exact e1.symm)
  have e' : ∀ i, (⟨w.heap.size, o, none⟩ : Addr) ≠ ⟨q, i, none⟩ := fun i e => hq (by injection e)
  exact ⟨(World.cell?_setCell_other _ _ _ _ (by first | exact e _ | exact e' _)).trans h.1, (World.cell?_setCell_other _ _ _ _ (by first | exact e _ | exact e' _)).trans h.2.1, (World.cell?_setCell_other _ _ _ _ (by first | exact e _ | exact e' _)).trans h.2.2.1, vr_set h.2.2.2.1, vr_set h.2.2.2.2.1, vr_set h.2.2.2.2.2.1,
    (World.frozen?_setCell _ _ _ _).trans h.2.2.2.2.2.2.1, (World.frozen?_setCell _ _ _ _).trans h.2.2.2.2.2.2.2.1, (World.frozen?_setCell _ _ _ _).trans h.2.2.2.2.2.2.2.2.1, by simpa [World.setCell] using h.2.2.2.2.2.2.2.2.2.1, by simpa [World.setCell] using h.2.2.2.2.2.2.2.2.2.2.1, bl_set h.2.2.2.2.2.2.2.2.2.2.2 (Nat.le_refl _) _⟩
/-! ### what a text of ladders is -/
theorem dec_list (n : Int) (h : 0 ≤ n) : (dec n).data.toList = Lib.decDigits n.toNat := by
  unfold dec Lib.itoa
  rw [if_neg (by omega)]
theorem txt_list (a b c : Int) (ha : 0 ≤ a) (hb : 0 ≤ b) (hc : 0 ≤ c) : (txt a b c).data.toList = Lib.decDigits a.toNat ++ 58 :: (Lib.decDigits b.toNat ++ 47 :: Lib.decDigits c.toNat) := by
  have h1 := dec_list a ha; have h2 := dec_list b hb; have h3 := dec_list c hc
  simp [txt, h1, h2, h3]
theorem not_in {n : Nat} {b : UInt8} (h : b.toNat < 48 ∨ 57 < b.toNat) : b ∉ Lib.decDigits n := fun hb => by
  have := digits_of n b hb; omega
theorem toList_inj {s t : ByteArray} (h : s.toList = t.toList) : s = t := by
  rw [Lib.toList_data, Lib.toList_data] at h
  exact ByteArray.ext (Array.toList_inj.1 h)
theorem bytes_eq {s t : ByteArray} (h : s.data.toList = t.data.toList) : s = t := ByteArray.ext (Array.toList_inj.1 h)
/-- a text of ladders, taken apart -/
theorem txt_parts {a b c : Int} (h : okL a b c = true) : ∃ x y z : Nat, (a = x ∧ b = y ∧ c = z) ∧ (x < 1000000 ∧ y < 1000000 ∧ z < 1000000) ∧
    (txt a b c).data.toList = Lib.decDigits x ++ 58 :: (Lib.decDigits y ++ 47 :: Lib.decDigits z) ∧ (58 : UInt8) ∉ Lib.decDigits x ∧ (58 : UInt8) ∉ Lib.decDigits y ++ 47 :: Lib.decDigits z ∧ (47 : UInt8) ∉ Lib.decDigits y ∧ (47 : UInt8) ∉ Lib.decDigits z ∧ (txt a b c).size ≤ 14 := by
  obtain ⟨⟨a0, a1⟩, ⟨b0, b1⟩, c0, c1⟩ := okL_true h
  have e := txt_list a b c (by omega) (by omega) (by omega)
  have l1 := digits_len 3 a.toNat (by omega); have l2 := digits_len 3 b.toNat (by omega); have l3 := digits_len 3 c.toNat (by omega)
  have h58 : ∀ n, (58 : UInt8) ∉ Lib.decDigits n := fun n => not_in (.inr (by decide))
  have h47 : ∀ n, (47 : UInt8) ∉ Lib.decDigits n := fun n => not_in (.inl (by decide))
  refine ⟨a.toNat, b.toNat, c.toNat, ⟨by omega, by omega, by omega⟩, ⟨by omega, by omega, by omega⟩, e, h58 _, ?_, h47 _, h47 _, ?_⟩
  · rw [List.mem_append, List.mem_cons]
    rintro (h | h | h)
    · exact h58 _ h
    · exact absurd h (by decide)
    · exact h58 _ h
  · rw [← len_data, e]
    simp only [List.length_append, List.length_cons]
    omega
theorem txt_inj {a b c a' b' c' : Int} (h : okL a b c = true) (h' : okL a' b' c' = true) (e : txt a b c = txt a' b' c') : a = a' ∧ b = b' ∧ c = c' := by
  obtain ⟨x, y, z, ⟨rfl, rfl, rfl⟩, _, e1, n1, n2, n3, n4, _⟩ := txt_parts h
  obtain ⟨x', y', z', ⟨rfl, rfl, rfl⟩, _, e1', n1', n2', n3', n4', _⟩ := txt_parts h'
  rw [e, e1'] at e1
  obtain ⟨q1, q2⟩ := cut_unique n1' n1 e1
  obtain ⟨q3, q4⟩ := cut_unique n3' n3 q2
  have := digits_inj q1; have := digits_inj q3; have := digits_inj q4
  omega

def Parsed (s : ByteArray) (a b c : Int) (ok : Bool) : Prop := (ok = true → okL a b c = true ∧ txt a b c = s) ∧ ∀ a' b' c', okL a' b' c' = true → txt a' b' c' = s → ok = true
theorem parsed_no {s : ByteArray} (h : ∀ a' b' c', okL a' b' c' = true → txt a' b' c' ≠ s) (a b c : Int) : Parsed s a b c false :=
  ⟨(fun e => by cases e), fun a' b' c' h1 h2 => absurd h2 (h a' b' c' h1)⟩

end Go.Proofs.YtohlbnfncllhoaaDoor

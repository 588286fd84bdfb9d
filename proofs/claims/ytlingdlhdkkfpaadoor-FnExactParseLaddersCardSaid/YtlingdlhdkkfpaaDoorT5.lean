/- Ladders that are read back, by the model. -/
import Derived.Test.YtlingdlhdkkfpaaDoorT4
import Derived.Deep.Cut
import Derived.Deep.DeepCutAuto
import Derived.Deep.RegionLaw
namespace Go.Proofs.YtlingdlhdkkfpaaDoor
open Go.RowKit
theorem frozen_after {u v : World} (hb : Below u.heap.size u v) {n o : Nat} (hn : n < u.heap.size) (hu : u.frozen? ⟨n, o, none⟩ = false) : v.frozen? ⟨n, o, none⟩ = false := by
  rw [(bcell hb).2 _ _ hn]; exact hu
theorem S7_after {a u v : World} {g q : Nat} {x y z : Value} (hb : Below u.heap.size u v) (h : u.cell? ⟨g, 0, none⟩ = some (x) ∧ u.cell? ⟨q, 0, none⟩ = some (y) ∧ u.cell? ⟨q, 1, none⟩ = some (z) ∧ g < u.heap.size ∧ q < u.heap.size ∧ Below a.heap.size a u) : v.cell? ⟨g, 0, none⟩ = some (x) ∧ v.cell? ⟨q, 0, none⟩ = some (y) ∧ v.cell? ⟨q, 1, none⟩ = some (z) ∧ g < v.heap.size ∧ q < v.heap.size ∧ Below a.heap.size a v :=
  ⟨cell_after hb (h.2.2.2.1) (h.1), cell_after hb (h.2.2.2.2.1) (h.2.1), cell_after hb (h.2.2.2.2.1) (h.2.2.1), size_after hb (h.2.2.2.1), size_after hb (h.2.2.2.2.1), bl_trans hb (h.2.2.2.2.2)⟩
theorem S8_after {a u v : World} {q r : Nat} {i j k x y z : Value} (hb : Below u.heap.size u v) (h : u.cell? ⟨q, 0, none⟩ = some (x) ∧ u.cell? ⟨q, 1, none⟩ = some (y) ∧ u.cell? ⟨q, 2, none⟩ = some (z) ∧ u.cell? ⟨r, 0, none⟩ = some (i) ∧ u.cell? ⟨r, 1, none⟩ = some (j) ∧ u.cell? ⟨r, 2, none⟩ = some (k) ∧ u.frozen? ⟨r, 0, none⟩ = false ∧ u.frozen? ⟨r, 1, none⟩ = false ∧ u.frozen? ⟨r, 2, none⟩ = false ∧ q < u.heap.size ∧ r < u.heap.size ∧ Below a.heap.size a u) : v.cell? ⟨q, 0, none⟩ = some (x) ∧ v.cell? ⟨q, 1, none⟩ = some (y) ∧ v.cell? ⟨q, 2, none⟩ = some (z) ∧ v.cell? ⟨r, 0, none⟩ = some (i) ∧ v.cell? ⟨r, 1, none⟩ = some (j) ∧ v.cell? ⟨r, 2, none⟩ = some (k) ∧ v.frozen? ⟨r, 0, none⟩ = false ∧ v.frozen? ⟨r, 1, none⟩ = false ∧ v.frozen? ⟨r, 2, none⟩ = false ∧ q < v.heap.size ∧ r < v.heap.size ∧ Below a.heap.size a v :=
  ⟨cell_after hb (h.2.2.2.2.2.2.2.2.2.1) (h.1), cell_after hb (h.2.2.2.2.2.2.2.2.2.1) (h.2.1), cell_after hb (h.2.2.2.2.2.2.2.2.2.1) (h.2.2.1), cell_after hb (h.2.2.2.2.2.2.2.2.2.2.1) (h.2.2.2.1), cell_after hb (h.2.2.2.2.2.2.2.2.2.2.1) (h.2.2.2.2.1), cell_after hb (h.2.2.2.2.2.2.2.2.2.2.1) (h.2.2.2.2.2.1), frozen_after hb (h.2.2.2.2.2.2.2.2.2.2.1) (h.2.2.2.2.2.2.1), frozen_after hb (h.2.2.2.2.2.2.2.2.2.2.1) (h.2.2.2.2.2.2.2.1), frozen_after hb (h.2.2.2.2.2.2.2.2.2.2.1) (h.2.2.2.2.2.2.2.2.1), size_after hb (h.2.2.2.2.2.2.2.2.2.1), size_after hb (h.2.2.2.2.2.2.2.2.2.2.1), bl_trans hb (h.2.2.2.2.2.2.2.2.2.2.2)⟩

def vr (w : World) (b o : Nat) : Value := (w.cell? ⟨b, o, none⟩).getD (.bool false)
theorem vr_some {w : World} {b o : Nat} {x : Value} (h : w.cell? ⟨b, o, none⟩ = some x) : w.cell? ⟨b, o, none⟩ = some (vr w b o) := by rw [vr, h]; rfl
theorem vr_after {u v : World} (hb : Below u.heap.size u v) {n o : Nat} (hn : n < u.heap.size) (hu : u.cell? ⟨n, o, none⟩ = some (vr u n o)) : v.cell? ⟨n, o, none⟩ = some (vr v n o) :=
  vr_some (cell_after hb hn hu)
theorem vr_set {u : World} {p : Addr} {b o : Nat} {x : Value} (h : u.cell? ⟨b, o, none⟩ = some (vr u b o)) : (u.setCell p x).cell? ⟨b, o, none⟩ = some (vr (u.setCell p x) b o) := by
  obtain ⟨v', hv⟩ := cell?_setCell_some (w := u) (p := p) (x := x) (q := ⟨b, o, none⟩) h
  exact vr_some hv
theorem S9_after {w u v : World} {q : Nat} {x y z : Value} (hb : Below u.heap.size u v) (h : u.cell? ⟨q, 0, none⟩ = some (x) ∧ u.cell? ⟨q, 1, none⟩ = some (y) ∧ u.cell? ⟨q, 2, none⟩ = some (z) ∧ u.cell? ⟨w.heap.size, 0, none⟩ = some (vr u w.heap.size 0) ∧ u.cell? ⟨w.heap.size, 1, none⟩ = some (vr u w.heap.size 1) ∧ u.cell? ⟨w.heap.size, 2, none⟩ = some (vr u w.heap.size 2) ∧ u.frozen? ⟨w.heap.size, 0, none⟩ = false ∧ u.frozen? ⟨w.heap.size, 1, none⟩ = false ∧ u.frozen? ⟨w.heap.size, 2, none⟩ = false ∧ q < u.heap.size ∧ w.heap.size < u.heap.size ∧ Below w.heap.size w u) : v.cell? ⟨q, 0, none⟩ = some (x) ∧ v.cell? ⟨q, 1, none⟩ = some (y) ∧ v.cell? ⟨q, 2, none⟩ = some (z) ∧ v.cell? ⟨w.heap.size, 0, none⟩ = some (vr v w.heap.size 0) ∧ v.cell? ⟨w.heap.size, 1, none⟩ = some (vr v w.heap.size 1) ∧ v.cell? ⟨w.heap.size, 2, none⟩ = some (vr v w.heap.size 2) ∧ v.frozen? ⟨w.heap.size, 0, none⟩ = false ∧ v.frozen? ⟨w.heap.size, 1, none⟩ = false ∧ v.frozen? ⟨w.heap.size, 2, none⟩ = false ∧ q < v.heap.size ∧ w.heap.size < v.heap.size ∧ Below w.heap.size w v :=
  ⟨cell_after hb h.2.2.2.2.2.2.2.2.2.1 h.1, cell_after hb h.2.2.2.2.2.2.2.2.2.1 h.2.1, cell_after hb h.2.2.2.2.2.2.2.2.2.1 h.2.2.1, vr_after hb h.2.2.2.2.2.2.2.2.2.2.1 h.2.2.2.1, vr_after hb h.2.2.2.2.2.2.2.2.2.2.1 h.2.2.2.2.1, vr_after hb h.2.2.2.2.2.2.2.2.2.2.1 h.2.2.2.2.2.1,
    frozen_after hb h.2.2.2.2.2.2.2.2.2.2.1 h.2.2.2.2.2.2.1, frozen_after hb h.2.2.2.2.2.2.2.2.2.2.1 h.2.2.2.2.2.2.2.1, frozen_after hb h.2.2.2.2.2.2.2.2.2.2.1 h.2.2.2.2.2.2.2.2.1, size_after hb h.2.2.2.2.2.2.2.2.2.1, size_after hb h.2.2.2.2.2.2.2.2.2.2.1, bl_trans hb h.2.2.2.2.2.2.2.2.2.2.2⟩
theorem S9_set {w u : World} {q o : Nat} {x y z val : Value} (hq : w.heap.size ≠ q) (h : u.cell? ⟨q, 0, none⟩ = some (x) ∧ u.cell? ⟨q, 1, none⟩ = some (y) ∧ u.cell? ⟨q, 2, none⟩ = some (z) ∧ u.cell? ⟨w.heap.size, 0, none⟩ = some (vr u w.heap.size 0) ∧ u.cell? ⟨w.heap.size, 1, none⟩ = some (vr u w.heap.size 1) ∧ u.cell? ⟨w.heap.size, 2, none⟩ = some (vr u w.heap.size 2) ∧ u.frozen? ⟨w.heap.size, 0, none⟩ = false ∧ u.frozen? ⟨w.heap.size, 1, none⟩ = false ∧ u.frozen? ⟨w.heap.size, 2, none⟩ = false ∧ q < u.heap.size ∧ w.heap.size < u.heap.size ∧ Below w.heap.size w u) : (u.setCell ⟨w.heap.size, o, none⟩ val).cell? ⟨q, 0, none⟩ = some (x) ∧ (u.setCell ⟨w.heap.size, o, none⟩ val).cell? ⟨q, 1, none⟩ = some (y) ∧ (u.setCell ⟨w.heap.size, o, none⟩ val).cell? ⟨q, 2, none⟩ = some (z) ∧ (u.setCell ⟨w.heap.size, o, none⟩ val).cell? ⟨w.heap.size, 0, none⟩ = some (vr ((u.setCell ⟨w.heap.size, o, none⟩ val)) w.heap.size 0) ∧ (u.setCell ⟨w.heap.size, o, none⟩ val).cell? ⟨w.heap.size, 1, none⟩ = some (vr ((u.setCell ⟨w.heap.size, o, none⟩ val)) w.heap.size 1) ∧ (u.setCell ⟨w.heap.size, o, none⟩ val).cell? ⟨w.heap.size, 2, none⟩ = some (vr ((u.setCell ⟨w.heap.size, o, none⟩ val)) w.heap.size 2) ∧ (u.setCell ⟨w.heap.size, o, none⟩ val).frozen? ⟨w.heap.size, 0, none⟩ = false ∧ (u.setCell ⟨w.heap.size, o, none⟩ val).frozen? ⟨w.heap.size, 1, none⟩ = false ∧ (u.setCell ⟨w.heap.size, o, none⟩ val).frozen? ⟨w.heap.size, 2, none⟩ = false ∧ q < (u.setCell ⟨w.heap.size, o, none⟩ val).heap.size ∧ w.heap.size < (u.setCell ⟨w.heap.size, o, none⟩ val).heap.size ∧ Below w.heap.size w (u.setCell ⟨w.heap.size, o, none⟩ val) := by
  have e : ∀ i, (⟨q, i, none⟩ : Addr) ≠ ⟨w.heap.size, o, none⟩ := fun i e => hq (by injection e with e1; exact e1.symm)
  have e' : ∀ i, (⟨w.heap.size, o, none⟩ : Addr) ≠ ⟨q, i, none⟩ := fun i e => hq (by injection e)
  exact ⟨(World.cell?_setCell_other _ _ _ _ (by first | exact e _ | exact e' _)).trans h.1, (World.cell?_setCell_other _ _ _ _ (by first | exact e _ | exact e' _)).trans h.2.1, (World.cell?_setCell_other _ _ _ _ (by first | exact e _ | exact e' _)).trans h.2.2.1, vr_set h.2.2.2.1, vr_set h.2.2.2.2.1, vr_set h.2.2.2.2.2.1,
    (World.frozen?_setCell _ _ _ _).trans h.2.2.2.2.2.2.1, (World.frozen?_setCell _ _ _ _).trans h.2.2.2.2.2.2.2.1, (World.frozen?_setCell _ _ _ _).trans h.2.2.2.2.2.2.2.2.1, by simpa [World.setCell] using h.2.2.2.2.2.2.2.2.2.1, by simpa [World.setCell] using h.2.2.2.2.2.2.2.2.2.2.1, bl_set h.2.2.2.2.2.2.2.2.2.2.2 (Nat.le_refl _) _⟩
/-! ### what a text of ladders is -/
theorem dec_list (n : Int) (h : 0 ≤ n) : (dec n).data.toList = Lib.decDigits n.toNat := by
  unfold dec Lib.itoa
  rw [if_neg (by omega)]
theorem txt_list (a b c : Int) (ha : 0 ≤ a) (hb : 0 ≤ b) (hc : 0 ≤ c) : (txt a b c).data.toList = Lib.decDigits a.toNat ++ 58 :: (Lib.decDigits b.toNat ++ 47 :: Lib.decDigits c.toNat) := by
  have h1 := dec_list a ha; have h2 := dec_list b hb; have h3 := dec_list c hc
  simp [txt, h1, h2, h3]
theorem not_in {n : Nat} {b : UInt8} (h : b.toNat < 48 ∨ 57 < b.toNat) : b ∉ Lib.decDigits n := fun hb => by
  have := digits_of n b hb; omega
theorem toList_inj {s t : ByteArray} (h : s.toList = t.toList) : s = t := by
  rw [Lib.toList_data, Lib.toList_data] at h
  exact ByteArray.ext (Array.toList_inj.1 h)
theorem bytes_eq {s t : ByteArray} (h : s.data.toList = t.data.toList) : s = t := ByteArray.ext (Array.toList_inj.1 h)
/-- a text of ladders, taken apart -/
theorem txt_parts {a b c : Int} (h : okL a b c = true) : ∃ x y z : Nat, (a = x ∧ b = y ∧ c = z) ∧ (x < 1000000 ∧ y < 1000000 ∧ z < 1000000) ∧
    (txt a b c).data.toList = Lib.decDigits x ++ 58 :: (Lib.decDigits y ++ 47 :: Lib.decDigits z) ∧ (58 : UInt8) ∉ Lib.decDigits x ∧ (58 : UInt8) ∉ Lib.decDigits y ++ 47 :: Lib.decDigits z ∧ (47 : UInt8) ∉ Lib.decDigits y ∧ (47 : UInt8) ∉ Lib.decDigits z ∧ (txt a b c).size ≤ 14 := by
  obtain ⟨⟨a0, a1⟩, ⟨b0, b1⟩, c0, c1⟩ := okL_true h
  have e := txt_list a b c (by omega) (by omega) (by omega)
  have l1 := digits_len 3 a.toNat (by omega); have l2 := digits_len 3 b.toNat (by omega); have l3 := digits_len 3 c.toNat (by omega)
  have h58 : ∀ n, (58 : UInt8) ∉ Lib.decDigits n := fun n => not_in (.inr (by decide))
  have h47 : ∀ n, (47 : UInt8) ∉ Lib.decDigits n := fun n => not_in (.inl (by decide))
  refine ⟨a.toNat, b.toNat, c.toNat, ⟨by omega, by omega, by omega⟩, ⟨by omega, by omega, by omega⟩, e, h58 _, ?_, h47 _, h47 _, ?_⟩
  · rw [List.mem_append, List.mem_cons]
    rintro (h | h | h)
    · exact h58 _ h
    · exact absurd h (by decide)
    · exact h58 _ h
  · rw [← len_data, e]
    simp only [List.length_append, List.length_cons]
    omega
theorem txt_inj {a b c a' b' c' : Int} (h : okL a b c = true) (h' : okL a' b' c' = true) (e : txt a b c = txt a' b' c') : a = a' ∧ b = b' ∧ c = c' := by
  obtain ⟨x, y, z, ⟨rfl, rfl, rfl⟩, _, e1, n1, n2, n3, n4, _⟩ := txt_parts h
  obtain ⟨x', y', z', ⟨rfl, rfl, rfl⟩, _, e1', n1', n2', n3', n4', _⟩ := txt_parts h'
  rw [e, e1'] at e1
  obtain ⟨q1, q2⟩ := cut_unique n1' n1 e1
  obtain ⟨q3, q4⟩ := cut_unique n3' n3 q2
  have := digits_inj q1; have := digits_inj q3; have := digits_inj q4
  omega

def Parsed (s : ByteArray) (a b c : Int) (ok : Bool) : Prop := (ok = true → okL a b c = true ∧ txt a b c = s) ∧ ∀ a' b' c', okL a' b' c' = true → txt a' b' c' = s → ok = true
theorem parsed_no {s : ByteArray} (h : ∀ a' b' c', okL a' b' c' = true → txt a' b' c' ≠ s) (a b c : Int) : Parsed s a b c false :=
  ⟨(fun e => by cases e), fun a' b' c' h1 h2 => absurd h2 (h a' b' c' h1)⟩

set_option maxHeartbeats 2000000 in
theorem clParse_any (s : ByteArray) (hs : s.size ≤ 1048576) (w : World) :
    Calls Tryd.prog 17 #[.string s] w fun e w' => ∃ a b c ok, e = .returned (.tuple #[.agg #[.int .i64 a, .int .i64 b, .int .i64 c], .bool ok]) ∧ Parsed s a b c ok ∧ Below w.heap.size w w' := by
  have hlen := len_data s
  go_enter Tryd.func17, Tryd.ntmps17
  go_wp2_with fail
  refine (l1Split_any s 58 58 rfl hs _).mono ?_
  rintro e w1 ⟨v1, rfl, r1, hb1⟩
  have R1 := Lib.hid r1
  clear r1
  obtain ⟨hc1, hf1⟩ := bcell hb1
  have hz1 := bsize hb1
  simp only [World.size_alloc] at hz1
  have z1 : w.heap.size < w1.heap.size := by omega
  by_cases hlong : 14 < s.size
  · have P := Lib.hid (parsed_no (s := s) (fun a b c h e => by obtain ⟨_, _, _, _, _, _, _, _, _, _, h14⟩ := txt_parts h; rw [e] at h14; omega) 0 0 0)
    have hl' : (14 : Int) < (s.size : Int) := by omega
    go_wp2
    refine bodyPost_ret (v := .tuple #[.agg #[.int .i64 0, .int .i64 0, .int .i64 0], .bool false]) (by simp [results, Tryd.results17, go_sem, *]) rfl ⟨_, _, _, _, rfl, P.out, (by repeat (first | exact Below.refl _ _ | refine bl_alloc ?_ _ | refine bl_drewN ?_ _ | refine bl_trans (by assumption) ?_ | refine bl_set ?_ (by first | omega | (simp; done) | (simp; omega)) _))⟩
  have hl' : ¬ (14 : Int) < (s.size : Int) := by omega
  by_cases hp : (sp 58 s.data.toList s.size).1.length ≠ 1
  · have P := Lib.hid (parsed_no (s := s) (fun a b c h e => by
      obtain ⟨x, y, z, _, _, e1, n1, n2, _⟩ := txt_parts h
      rw [e] at e1
      have := sp_two n1 n2
      rw [← e1, hlen] at this
      exact hp (by rw [this]; rfl)) 0 0 0)
    obtain ⟨g, cap, rfl, _, _, _⟩ := R1.out.open_ (by simp)
    have hl2 : (((((sp 58 s.data.toList s.size).1 ++ [(sp 58 s.data.toList s.size).2]).length : Nat) : Int) != 2) = true := by simp; omega
    generalize ((sp 58 s.data.toList s.size).1 ++ [(sp 58 s.data.toList s.size).2]).length = L at *
    go_wp2
    refine bodyPost_ret (v := .tuple #[.agg #[.int .i64 0, .int .i64 0, .int .i64 0], .bool false]) (by simp [results, Tryd.results17, go_sem, *]) rfl ⟨_, _, _, _, rfl, P.out, (by repeat (first | exact Below.refl _ _ | refine bl_alloc ?_ _ | refine bl_drewN ?_ _ | refine bl_trans (by assumption) ?_ | refine bl_set ?_ (by first | omega | (simp; done) | (simp; omega)) _))⟩
  have hp := Decidable.not_not.1 hp
  obtain ⟨x, y, hxy, hsplit, n1, n2⟩ := sp_of_one (b := 58) (l := s.data.toList) (by rw [hlen]; exact hp)
  rw [hlen] at hxy
  rw [hxy] at R1
  clear hp hxy
  have HS := Lib.hid hsplit
  have hyl : y.length ≤ 14 := by
    have := congrArg List.length hsplit
    simp at this; omega
  clear hsplit
  obtain ⟨g, cap, rfl, hB1, hg, hcl⟩ := SRow.open_ R1.out (by simp)
  have cx : w1.cell? ⟨g, 0, none⟩ = some (str x) := hcl 0 (by simp)
  have cy : w1.cell? ⟨g, 1, none⟩ = some (str y) := hcl 1 (by simp)
  simp only [List.cons_append, List.nil_append, List.length_cons, List.length_nil] at *
  clear hcl
  clear R1 hp
  go_wp2_with fail
  refine (l1Split_any ⟨y.toArray⟩ 47 47 rfl (by show y.length ≤ 1048576; omega) _).mono ?_
  rintro e w2 ⟨v2, rfl, r2, hb2⟩
  have r2 : SRow w2 w1.heap.size v2 ((sp 47 y y.length).1 ++ [(sp 47 y y.length).2]) := r2
  have R2 := Lib.hid r2
  clear r2
  obtain ⟨hc2, hf2⟩ := bcell hb2
  have hz2 := bsize hb2
  have z2 : w.heap.size < w2.heap.size := by omega
  have z2g : g < w2.heap.size := by omega
  have HX : Hid (∀ a b c, okL a b c = true → txt a b c = s → ∃ p q r : Nat, (a = p ∧ b = q ∧ c = r) ∧ (p < 1000000 ∧ q < 1000000 ∧ r < 1000000) ∧ x = Lib.decDigits p ∧ y = Lib.decDigits q ++ 47 :: Lib.decDigits r ∧ (47 : UInt8) ∉ Lib.decDigits q ∧ (47 : UInt8) ∉ Lib.decDigits r) := by
    refine Lib.hid fun a b c h e => ?_
    obtain ⟨p, q, r, habc, hlt, e1, m1, m2, m3, m4, _⟩ := txt_parts h
    rw [e, HS.out] at e1
    obtain ⟨q1, q2⟩ := cut_unique n1 m1 e1
    exact ⟨p, q, r, habc, hlt, q1, q2, m3, m4⟩
  by_cases hp : (sp 47 y y.length).1.length ≠ 1
  · have P := Lib.hid (parsed_no (s := s) (fun a b c h e => by
      obtain ⟨p, q, r, _, _, _, e2, m3, m4⟩ := HX.out a b c h e
      have := sp_two m3 m4
      rw [← e2] at this
      exact hp (by rw [this]; rfl)) 0 0 0)
    obtain ⟨g2, cap2, rfl, _, _, _⟩ := R2.out.open_ (by simp)
    have hl2 : (((((sp 47 y y.length).1 ++ [(sp 47 y y.length).2]).length : Nat) : Int) != 2) = true := by simp; omega
    generalize ((sp 47 y y.length).1 ++ [(sp 47 y y.length).2]).length = L at *
    go_wp2
    refine bodyPost_ret (v := .tuple #[.agg #[.int .i64 0, .int .i64 0, .int .i64 0], .bool false]) (by simp [results, Tryd.results17, go_sem, *]) rfl ⟨_, _, _, _, rfl, P.out, (by repeat (first | exact Below.refl _ _ | refine bl_alloc ?_ _ | refine bl_drewN ?_ _ | refine bl_trans (by assumption) ?_ | refine bl_set ?_ (by first | omega | (simp; done) | (simp; omega)) _))⟩
  have hp := Decidable.not_not.1 hp
  obtain ⟨y1, z, hyz, hsplit, n3, n4⟩ := sp_of_one hp
  rw [hyz] at R2
  have HY := Lib.hid hsplit
  clear hp hyz hsplit
  obtain ⟨q, cap2, rfl, hB2, hq, hcl⟩ := SRow.open_ R2.out (by simp)
  have dy : w2.cell? ⟨q, 0, none⟩ = some (str y1) := hcl 0 (by simp)
  have dz : w2.cell? ⟨q, 1, none⟩ = some (str z) := hcl 1 (by simp)
  have dx : w2.cell? ⟨g, 0, none⟩ = some (str x) := by rw [hc2 _ _ hg]; exact cx
  simp only [List.cons_append, List.nil_append, List.length_cons, List.length_nil] at *
  have hk : Below w.heap.size w w2 := (by repeat (first | exact Below.refl _ _ | refine bl_alloc ?_ _ | refine bl_drewN ?_ _ | refine bl_trans (by assumption) ?_ | refine bl_set ?_ (by first | omega | (simp; done) | (simp; omega)) _))
  have dr0 : w2.cell? ⟨w.heap.size, 0, none⟩ = some (.int .i64 0) := by simp [*]
  have dr1 : w2.cell? ⟨w.heap.size, 1, none⟩ = some (.int .i64 0) := by simp [*]
  have dr2 : w2.cell? ⟨w.heap.size, 2, none⟩ = some (.int .i64 0) := by simp [*]
  have fr0 : w2.frozen? ⟨w.heap.size, 0, none⟩ = false := by simp [*]
  have fr1 : w2.frozen? ⟨w.heap.size, 1, none⟩ = false := by simp [*]
  have fr2 : w2.frozen? ⟨w.heap.size, 2, none⟩ = false := by simp [*]
  have HK := Lib.hid hk
  clear hcl R2 cx cy hc1 hf1 hb1 hc2 hf2 hb2 hk
  have hS : w2.cell? ⟨g, 0, none⟩ = some (str x) ∧ w2.cell? ⟨q, 0, none⟩ = some (str y1) ∧ w2.cell? ⟨q, 1, none⟩ = some (str z) ∧ g < w2.heap.size ∧ q < w2.heap.size ∧ Below w2.heap.size w2 w2 := ⟨dx, dy, dz, z2g, hq, Below.refl _ _⟩
  go_upto_region 7 with fail
  go_cut [6] (fun s6 wx => s6 = .pointer (some ⟨w2.heap.size, 0, none⟩) ∧ wx = (w2.alloc (.cells #[.int .i64 (rdV x), .int .i64 (rdV y1), .int .i64 (rdV z)] 23)).drew)
  case first =>
    go_region_held3 (fun w' => w'.cell? ⟨g, 0, none⟩ = some (str x) ∧ w'.cell? ⟨q, 0, none⟩ = some (str y1) ∧ w'.cell? ⟨q, 1, none⟩ = some (str z) ∧ g < w'.heap.size ∧ q < w'.heap.size ∧ Below w2.heap.size w2 w') (first | exact S7_after hb9 (by assumption) | exact S7_after (below_drewN (Below.refl _ _) _) (by assumption) | exact S7_after (Below.drew (Below.refl _ _)) (by assumption) | assumption | exact S7_after (Below.drew ((Below.refl _ _).alloc (Nat.le_refl _) _)) (by assumption) | exact S7_after ((Below.refl _ _).alloc (Nat.le_refl _) _) (by assumption)) (first | (go_at_call 28; refine (l1Read_any ⟨_⟩ _).mono ?_; rintro e w9 ⟨rfl, rfl⟩))
    all_goals (go_wp2_with fail; go_meet; exact ⟨rfl, rfl⟩)
  case rest =>
    obtain ⟨rfl, rfl⟩ := hcut
    have HR : Hid (∀ a b c, okL a b c = true → txt a b c = s → rdV x = a ∧ rdV y1 = b ∧ rdV z = c) := by
      refine Lib.hid fun a b c h e => ?_
      obtain ⟨p, q', r, ⟨rfl, rfl, rfl⟩, ⟨l1, l2, l3⟩, e1, e2, m3, m4⟩ := HX.out a b c h e
      rw [HY.out] at e2
      obtain ⟨q1, q2⟩ := cut_unique n3 m3 e2
      exact ⟨by rw [e1, rdV_digits _ l1], by rw [q1, rdV_digits _ l2], by rw [q2, rdV_digits _ l3]⟩
    generalize rdV x = p1 at *
    generalize rdV y1 = p2 at *
    generalize rdV z = p3 at *
    have hbb : Below w2.heap.size w2 (w2.alloc (.cells #[.int .i64 p1, .int .i64 p2, .int .i64 p3] 23)).drew := Below.drew ((Below.refl _ _).alloc (Nat.le_refl _) _)
    have hS8 : (w2.alloc (.cells #[.int .i64 p1, .int .i64 p2, .int .i64 p3] 23)).drew.cell? ⟨w2.heap.size, 0, none⟩ = some (.int .i64 p1) ∧ (w2.alloc (.cells #[.int .i64 p1, .int .i64 p2, .int .i64 p3] 23)).drew.cell? ⟨w2.heap.size, 1, none⟩ = some (.int .i64 p2) ∧ (w2.alloc (.cells #[.int .i64 p1, .int .i64 p2, .int .i64 p3] 23)).drew.cell? ⟨w2.heap.size, 2, none⟩ = some (.int .i64 p3) ∧ (w2.alloc (.cells #[.int .i64 p1, .int .i64 p2, .int .i64 p3] 23)).drew.cell? ⟨w.heap.size, 0, none⟩ = some (.int .i64 0) ∧ (w2.alloc (.cells #[.int .i64 p1, .int .i64 p2, .int .i64 p3] 23)).drew.cell? ⟨w.heap.size, 1, none⟩ = some (.int .i64 0) ∧ (w2.alloc (.cells #[.int .i64 p1, .int .i64 p2, .int .i64 p3] 23)).drew.cell? ⟨w.heap.size, 2, none⟩ = some (.int .i64 0) ∧ (w2.alloc (.cells #[.int .i64 p1, .int .i64 p2, .int .i64 p3] 23)).drew.frozen? ⟨w.heap.size, 0, none⟩ = false ∧ (w2.alloc (.cells #[.int .i64 p1, .int .i64 p2, .int .i64 p3] 23)).drew.frozen? ⟨w.heap.size, 1, none⟩ = false ∧ (w2.alloc (.cells #[.int .i64 p1, .int .i64 p2, .int .i64 p3] 23)).drew.frozen? ⟨w.heap.size, 2, none⟩ = false ∧ w2.heap.size < (w2.alloc (.cells #[.int .i64 p1, .int .i64 p2, .int .i64 p3] 23)).drew.heap.size ∧ w.heap.size < (w2.alloc (.cells #[.int .i64 p1, .int .i64 p2, .int .i64 p3] 23)).drew.heap.size ∧ Below w2.heap.size w2 (w2.alloc (.cells #[.int .i64 p1, .int .i64 p2, .int .i64 p3] 23)).drew :=
      ⟨by simp, by simp, by simp, cell_after hbb z2 dr0, cell_after hbb z2 dr1, cell_after hbb z2 dr2, frozen_after hbb z2 fr0, frozen_after hbb z2 fr1, frozen_after hbb z2 fr2, by simp, size_after hbb z2, hbb⟩
    have hk8 : Below w.heap.size w (w2.alloc (.cells #[.int .i64 p1, .int .i64 p2, .int .i64 p3] 23)).drew := Below.drew (bl_alloc HK.out _)
    clear hS hbb dx dy dz HX HS HY n3 n4 dr0 dr1 dr2 fr0 fr1 fr2 HK
    generalize (w2.alloc (.cells #[.int .i64 p1, .int .i64 p2, .int .i64 p3] 23)).drew = w8 at *
    have HK := Lib.hid hk8
    clear hk8
    have PF : okL p1 p2 p3 = false → Parsed s p1 p2 p3 false := fun hok => parsed_no (s := s) (fun a b c h e => by
        obtain ⟨rfl, rfl, rfl⟩ := HR.out a b c h e
        rw [h] at hok; cases hok) p1 p2 p3
    have PT : okL p1 p2 p3 = true → txt p1 p2 p3 = s → Parsed s p1 p2 p3 true := fun hok h2 => ⟨fun _ => ⟨hok, h2⟩, fun _ _ _ _ _ => rfl⟩
    have PN : txt p1 p2 p3 ≠ s → Parsed s p1 p2 p3 false := fun hne => parsed_no (fun a b c h e => by
        obtain ⟨rfl, rfl, rfl⟩ := HR.out a b c h e
        exact hne e) p1 p2 p3
    have QF := Lib.hid PF
    have QT := Lib.hid PT
    have QN := Lib.hid PN
    clear PF PT PN HR
    obtain ⟨a0, a1, a2, b0, b1, b2, f0, f1, f2, l1, l2, _⟩ := hS8
    have hne : w.heap.size ≠ w2.heap.size := by omega
    have hS9 : w8.cell? ⟨w2.heap.size, 0, none⟩ = some (.int .i64 p1) ∧ w8.cell? ⟨w2.heap.size, 1, none⟩ = some (.int .i64 p2) ∧ w8.cell? ⟨w2.heap.size, 2, none⟩ = some (.int .i64 p3) ∧ w8.cell? ⟨w.heap.size, 0, none⟩ = some (vr w8 w.heap.size 0) ∧ w8.cell? ⟨w.heap.size, 1, none⟩ = some (vr w8 w.heap.size 1) ∧ w8.cell? ⟨w.heap.size, 2, none⟩ = some (vr w8 w.heap.size 2) ∧ w8.frozen? ⟨w.heap.size, 0, none⟩ = false ∧ w8.frozen? ⟨w.heap.size, 1, none⟩ = false ∧ w8.frozen? ⟨w.heap.size, 2, none⟩ = false ∧ w2.heap.size < w8.heap.size ∧ w.heap.size < w8.heap.size ∧ Below w.heap.size w w8 := ⟨a0, a1, a2, vr_some b0, vr_some b1, vr_some b2, f0, f1, f2, l1, l2, HK.out⟩
    clear a0 a1 a2 b0 b1 b2 f0 f1 f2 l1 l2 HK
    cases hok : okL p1 p2 p3
    · obtain ⟨a0, a1, a2, b0, b1, b2, f0, f1, f2, l1, l2, hw8⟩ := hS9
      have P := Lib.hid (QF.out hok)
      go_wp2_with fail
      first
        | (go_region_with (go_at_call 29; refine (spec_clGood _ _ _ _).mono ?_; rintro e w9 ⟨rfl, hb9⟩; have a0x := cell_after hb9 l1 a0; have a1x := cell_after hb9 l1 a1; have a2x := cell_after hb9 l1 a2; have b0x := cell_after hb9 l2 b0; have b1x := cell_after hb9 l2 b1; have b2x := cell_after hb9 l2 b2; have f0x := frozen_after hb9 l2 f0; have f1x := frozen_after hb9 l2 f1; have f2x := frozen_after hb9 l2 f2; rw [hok]))
        | fail
      all_goals
        go_wp2
        refine bodyPost_ret (v := .tuple #[.agg #[.int .i64 p1, .int .i64 p2, .int .i64 p3], .bool false]) (by simp [results, Tryd.results17, go_sem, *]) rfl ⟨_, _, _, _, rfl, P.out, bl_set (bl_set (bl_set (by repeat (first | exact Below.refl _ _ | refine bl_alloc ?_ _ | refine bl_drewN ?_ _ | refine bl_trans (by assumption) ?_ | refine bl_set ?_ (by first | omega | (simp; done) | (simp; omega)) _)) (Nat.le_refl _) _) (Nat.le_refl _) _) (Nat.le_refl _) _⟩
    · have PB := Lib.hid (show Parsed s p1 p2 p3 ((txt p1 p2 p3).toList == s.toList) by
        by_cases h : txt p1 p2 p3 = s
        · rw [h, beq_self_eq_true]; exact QT.out hok h
        · rw [beq_eq_false_iff_ne.2 fun e => h (toList_inj e)]; exact QN.out h)
      go_wp2_with fail
      go_region_held3 (fun w' => w'.cell? ⟨w2.heap.size, 0, none⟩ = some (.int .i64 p1) ∧ w'.cell? ⟨w2.heap.size, 1, none⟩ = some (.int .i64 p2) ∧ w'.cell? ⟨w2.heap.size, 2, none⟩ = some (.int .i64 p3) ∧ w'.cell? ⟨w.heap.size, 0, none⟩ = some (vr w' w.heap.size 0) ∧ w'.cell? ⟨w.heap.size, 1, none⟩ = some (vr w' w.heap.size 1) ∧ w'.cell? ⟨w.heap.size, 2, none⟩ = some (vr w' w.heap.size 2) ∧ w'.frozen? ⟨w.heap.size, 0, none⟩ = false ∧ w'.frozen? ⟨w.heap.size, 1, none⟩ = false ∧ w'.frozen? ⟨w.heap.size, 2, none⟩ = false ∧ w2.heap.size < w'.heap.size ∧ w.heap.size < w'.heap.size ∧ Below w.heap.size w w') (first | exact S9_after hb9 (by assumption) | exact S9_after (below_drewN (Below.refl _ _) _) (by assumption) | exact S9_after (Below.drew (Below.refl _ _)) (by assumption) | assumption | exact S9_set hne (S9_set hne (S9_set hne (by assumption)))) (first | (go_at_call 29; refine (spec_clGood _ _ _ _).mono ?_; rintro e w9 ⟨rfl, hb9⟩; rw [hok]) | (go_at_call 30; refine (clText_any _ _ _ hok _).mono ?_; rintro e w9 ⟨rfl, hb9⟩))
      go_wp2
      obtain ⟨_, _, _, c0, c1, c2, g0, g1, g2, _, _, hw9⟩ := S9_after hb9 (S9_after (u := w8.drew) (by assumption) (S9_after (u := w8) (v := w8.drew) (Below.drew (Below.refl _ _)) hS9))
      have HW9 := Lib.hid hw9
      clear hw9
      have ne : ∀ i j : Nat, i ≠ j → (⟨w.heap.size, i, none⟩ : Addr) ≠ ⟨w.heap.size, j, none⟩ := fun i j h e => h (by injection e)
      have d0 : (((w9.setCell ⟨w.heap.size, 0, none⟩ (.int .i64 p1)).setCell ⟨w.heap.size, 1, none⟩ (.int .i64 p2)).setCell ⟨w.heap.size, 2, none⟩ (.int .i64 p3)).cell? ⟨w.heap.size, 0, none⟩ = some (.int .i64 p1) :=
        (World.cell?_setCell_other _ _ _ _ (ne 2 0 (by decide))).trans ((World.cell?_setCell_other _ _ _ _ (ne 1 0 (by decide))).trans (World.cell?_setCell_same _ _ _ c0))
      have d1 : (((w9.setCell ⟨w.heap.size, 0, none⟩ (.int .i64 p1)).setCell ⟨w.heap.size, 1, none⟩ (.int .i64 p2)).setCell ⟨w.heap.size, 2, none⟩ (.int .i64 p3)).cell? ⟨w.heap.size, 1, none⟩ = some (.int .i64 p2) :=
        (World.cell?_setCell_other _ _ _ _ (ne 2 1 (by decide))).trans (World.cell?_setCell_same _ _ _ ((World.cell?_setCell_other _ _ _ _ (ne 0 1 (by decide))).trans c1))
      have d2 : (((w9.setCell ⟨w.heap.size, 0, none⟩ (.int .i64 p1)).setCell ⟨w.heap.size, 1, none⟩ (.int .i64 p2)).setCell ⟨w.heap.size, 2, none⟩ (.int .i64 p3)).cell? ⟨w.heap.size, 2, none⟩ = some (.int .i64 p3) :=
        World.cell?_setCell_same _ _ _ ((World.cell?_setCell_other _ _ _ _ (ne 1 2 (by decide))).trans ((World.cell?_setCell_other _ _ _ _ (ne 0 2 (by decide))).trans c2))
      clear c0 c1 c2 ne
      refine bodyPost_ret (v := .tuple #[.agg #[.int .i64 p1, .int .i64 p2, .int .i64 p3], .bool ((txt p1 p2 p3).toList == s.toList)]) (by simp [results, Tryd.results17, go_sem, d0, d1, d2]) rfl ⟨_, _, _, _, rfl, PB.out, bl_set (bl_set (bl_set HW9.out (Nat.le_refl _) _) (Nat.le_refl _) _) (Nat.le_refl _) _⟩
end Go.Proofs.YtlingdlhdkkfpaaDoor

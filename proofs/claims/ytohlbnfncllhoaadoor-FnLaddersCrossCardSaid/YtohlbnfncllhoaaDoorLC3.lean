/- The law FnLaddersCross: its walk. -/
import Derived.Test.YtohlbnfncllhoaaDoorLCB
import Derived.Test.YtohlbnfncllhoaaDoorLCL
namespace Go.Proofs.YtohlbnfncllhoaaDoor
open Go.RowKit
set_option linter.unusedVariables false
set_option linter.unusedSimpArgs false
open FnLaddersCross
attribute [local irreducible] Array.setIfInBounds
def OneB (e : Ending) : Prop := ∃ r : Bool, e = .returned (.bool r)
set_option maxHeartbeats 1000000 in
theorem big_any (v u : Value) (w : World) (h : Bytes w w.heap.size v) (k : Bytes w w.heap.size u) :
    Calls Tryd.prog 5 #[v, u] w fun e w' => OneB e ∧ w = w' := by
  obtain ⟨a, n, c, rfl, hn⟩ := h.shape
  obtain ⟨a', n', c', rfl, hn'⟩ := k.shape
  clear h k
  go_enter Tryd.func5, Tryd.ntmps5
  go_wp2
  all_goals (go_ret; exact ⟨⟨_, rfl⟩, rfl⟩)
set_option maxHeartbeats 8000000 in
set_option maxRecDepth 100000 in
theorem cross_drawn (VY0 VY1 : Value) (w : World) (h0 : Bytes w w.heap.size VY0) (h1 : Bytes w w.heap.size VY1) (hDH : ∀ (v : Value) (w : World), Bytes w w.heap.size v → Hid (Calls Tryd.prog 27 #[v] w fun e w' => ∃ (x y z : Int) (r : Bool) (p : Int), e = .returned (.tuple #[.agg #[.int .i64 x, .int .i64 y, .int .i64 z], .bool r, .int .i64 p]) ∧ Below w.heap.size w w')) (hT : Tab w) (hE : Errs w) (hM : MaxL w) :
    Calls Tryd.prog 3 #[VY0, VY1] w fun e w' => e = .returned (.bool true) ∧ Below w.heap.size w w' := by
  have HTA := Lib.hid hT
  have HER := Lib.hid hE
  have HMX := Lib.hid hM
  clear hT hE hM
  go_enter Tryd.func3, Tryd.ntmps3
  refine reframe fun T1 hT => ?_
  have hs1 : T1.size = 719 := by rw [hT]; rfl
  have f1000_1 : ∀ hh : 0 < T1.size, T1[0]'hh = VY0 := by subst hT; intro hh; rfl
  have f1001_1 : ∀ hh : 1 < T1.size, T1[1]'hh = VY1 := by subst hT; intro hh; rfl
  have q1000_1 := putq (by rw [hs1]; decide) f1000_1
  have q1001_1 := putq (by rw [hs1]; decide) f1001_1
  clear hT
  have H0 := Lib.hid h0
  have H1 := Lib.hid h1
  clear h0 h1
  go_wp2_with fail
  refine (big_any _ _ _ H0.out H1.out).mono ?_
  rintro e w' ⟨⟨r, rfl⟩, rfl⟩
  go_wp2_with fail
  cases r
  case true =>
    refine wp_cond_t ?_ ?_
    · (go_simp <;> omega)
    go_wp2
    go_ret
    exact ⟨by simp [hs1], Below.refl _ _⟩
  go_wp2_with fail
  refine wp_cond_f ?_ ?_
  · go_simp
  go_wp2_with fail
  refine (DrawCrossHeight_any _ _ H0.out).mono ?_
  rintro e w1 ⟨a, b, c, rfl, hb1⟩
  have HB1 := Lib.hid hb1
  clear hb1
  obtain ⟨N, D, X, Y, G, H, U, V, K, M, m1, m2, m3, tx, OK, HA1, HA2, HBB1, HBB2, HC1, HC2, HD1, HD2, HE1, HE2, HT1, HT2, HM1, HM2, HL1, HL2, FA_⟩ := pack_LA a b c
  have FA := Lib.hid FA_
  clear FA_
  go_wp2_with fail
  refine ((HA1 _).out).mono ?_
  rintro e w101 ⟨rfl, hb_⟩
  have HFw101 := Lib.hid (Lay.after (w := w) (B := [(w1.heap.size, a, b, c)]) (Lay.c (g := w1.heap.size) (x0 := a) (x1 := b) (x2 := c) (by simp [go_sem]) (by simp [go_sem]) (by simp [go_sem]) (by first | (simp; done) | (simp; omega)) ((show Lay w [] _ from (by repeat (first | exact HB1.out | refine bl_alloc ?_ _ | refine bl_set ?_ (by first | omega | (simp; done) | (simp; omega)) _))))) hb_)
  clear hb_ 
  obtain ⟨c00, c01, c02, z0, hbl⟩ := Lay.op (HFw101.out)
  clear hbl
  generalize w1.heap.size = g at *
  have HB1 := HBB1
  have HB2 := HBB2
  go_wp2_with fail
  refine ((HA2 _).out).mono ?_
  rintro e w102 ⟨rfl, hb_⟩
  have HFw102 := Lib.hid (Lay.after (w := w) (B := [(g, a, b, c)]) (Lay.after (HFw101.out) (by repeat (first | exact Below.refl _ _ | refine bl_alloc ?_ _ | refine bl_drewN ?_ _ | refine bl_set ?_ (by first | omega | (simp; done) | (simp; omega)) _))) hb_)
  clear hb_ c00 c01 c02 z0
  obtain ⟨c00, c01, c02, z0, hbl⟩ := Lay.op (HFw102.out)
  clear hbl
  go_wp2_with fail
  refine ((HB1 _).out).mono ?_
  rintro e w103 ⟨rfl, hb_⟩
  have HFw103 := Lib.hid (Lay.after (w := w) (B := [(g, a, b, c)]) (Lay.after (HFw102.out) (by repeat (first | exact Below.refl _ _ | refine bl_alloc ?_ _ | refine bl_drewN ?_ _ | refine bl_set ?_ (by first | omega | (simp; done) | (simp; omega)) _))) hb_)
  clear hb_ c00 c01 c02 z0
  obtain ⟨c00, c01, c02, z0, hbl⟩ := Lay.op (HFw103.out)
  clear hbl
  go_wp2_with fail
  refine ((HB2 _).out).mono ?_
  rintro e w104 ⟨rfl, hb_⟩
  have HFw104 := Lib.hid (Lay.after (w := w) (B := [(g, a, b, c)]) (Lay.after (HFw103.out) (by repeat (first | exact Below.refl _ _ | refine bl_alloc ?_ _ | refine bl_drewN ?_ _ | refine bl_set ?_ (by first | omega | (simp; done) | (simp; omega)) _))) hb_)
  clear hb_ c00 c01 c02 z0
  obtain ⟨c00, c01, c02, z0, hbl⟩ := Lay.op (HFw104.out)
  clear hbl
  go_upto_region 8 with fail
  refine reframe fun T2 hT => ?_
  have hs2 : T2.size = 719 := by subst hT; simp [hs1]
  have q9_2 : At T2 5 (.pointer (some ⟨g, 0, none⟩)) := by subst hT; exact (by first | (simp only [At, ↓Array.getElem?_setIfInBounds_ne, ne_eq, Nat.reduceEqDiff, not_false_eq_true]; done) | simp [At, hs1, f1000_1, f1001_1])
  have f9_2 := fun hh => getq q9_2 hh
  have q1001_2 : At T2 1 (VY1) := by subst hT; exact (by first | (simp only [At, ↓Array.getElem?_setIfInBounds_ne, ne_eq, Nat.reduceEqDiff, not_false_eq_true, q1001_1]; done) | simp [At, hs1, f1000_1, f1001_1])
  have f1001_2 := fun hh => getq q1001_2 hh
  have q19_2 : At T2 6 (.int .i64 N) := by subst hT; exact (by first | (simp only [At, ↓Array.getElem?_setIfInBounds_ne, ne_eq, Nat.reduceEqDiff, not_false_eq_true]; done) | simp [At, hs1, f1000_1, f1001_1])
  have f19_2 := fun hh => getq q19_2 hh
  have q20_2 : At T2 7 (.int .i64 D) := by subst hT; exact (by first | (simp only [At, ↓Array.getElem?_setIfInBounds_ne, ne_eq, Nat.reduceEqDiff, not_false_eq_true]; done) | simp [At, hs1, f1000_1, f1001_1])
  have f20_2 := fun hh => getq q20_2 hh
  have q21_2 : At T2 8 (.bool OK) := by subst hT; exact (by first | (simp only [At, ↓Array.getElem?_setIfInBounds_ne, ne_eq, Nat.reduceEqDiff, not_false_eq_true]; done) | simp [At, hs1, f1000_1, f1001_1])
  have f21_2 := fun hh => getq q21_2 hh
  have q22_2 : At T2 9 (.int .i64 N) := by subst hT; exact (by first | (simp only [At, ↓Array.getElem?_setIfInBounds_ne, ne_eq, Nat.reduceEqDiff, not_false_eq_true]; done) | simp [At, hs1, f1000_1, f1001_1])
  have f22_2 := fun hh => getq q22_2 hh
  have q23_2 : At T2 10 (.int .i64 D) := by subst hT; exact (by first | (simp only [At, ↓Array.getElem?_setIfInBounds_ne, ne_eq, Nat.reduceEqDiff, not_false_eq_true]; done) | simp [At, hs1, f1000_1, f1001_1])
  have f23_2 := fun hh => getq q23_2 hh
  have q24_2 : At T2 11 (.bool OK) := by subst hT; exact (by first | (simp only [At, ↓Array.getElem?_setIfInBounds_ne, ne_eq, Nat.reduceEqDiff, not_false_eq_true]; done) | simp [At, hs1, f1000_1, f1001_1])
  have f24_2 := fun hh => getq q24_2 hh
  have q25_2 : At T2 12 (.int .i64 X) := by subst hT; exact (by first | (simp only [At, ↓Array.getElem?_setIfInBounds_ne, ne_eq, Nat.reduceEqDiff, not_false_eq_true]; done) | simp [At, hs1, f1000_1, f1001_1])
  have f25_2 := fun hh => getq q25_2 hh
  have q26_2 : At T2 13 (.int .i64 Y) := by subst hT; exact (by first | (simp only [At, ↓Array.getElem?_setIfInBounds_ne, ne_eq, Nat.reduceEqDiff, not_false_eq_true]; done) | simp [At, hs1, f1000_1, f1001_1])
  have f26_2 := fun hh => getq q26_2 hh
  have q27_2 : At T2 14 (.bool OK) := by subst hT; exact (by first | (simp only [At, ↓Array.getElem?_setIfInBounds_ne, ne_eq, Nat.reduceEqDiff, not_false_eq_true]; done) | simp [At, hs1, f1000_1, f1001_1])
  have f27_2 := fun hh => getq q27_2 hh
  have q28_2 : At T2 15 (.int .i64 X) := by subst hT; exact (by first | (simp only [At, ↓Array.getElem?_setIfInBounds_ne, ne_eq, Nat.reduceEqDiff, not_false_eq_true]; done) | simp [At, hs1, f1000_1, f1001_1])
  have f28_2 := fun hh => getq q28_2 hh
  have q29_2 : At T2 16 (.int .i64 Y) := by subst hT; exact (by first | (simp only [At, ↓Array.getElem?_setIfInBounds_ne, ne_eq, Nat.reduceEqDiff, not_false_eq_true]; done) | simp [At, hs1, f1000_1, f1001_1])
  have f29_2 := fun hh => getq q29_2 hh
  have q30_2 : At T2 17 (.bool OK) := by subst hT; exact (by first | (simp only [At, ↓Array.getElem?_setIfInBounds_ne, ne_eq, Nat.reduceEqDiff, not_false_eq_true]; done) | simp [At, hs1, f1000_1, f1001_1])
  have f30_2 := fun hh => getq q30_2 hh
  clear hT f1001_1 f1000_1 hs1 q1000_1 q1001_1
  go_wp2_with fail
  refine ((HC1 _).out).mono ?_
  rintro e w105 ⟨rfl, hb_⟩
  have HFw105 := Lib.hid (Lay.after (w := w) (B := [(g, a, b, c)]) (Lay.after (HFw104.out) (by repeat (first | exact Below.refl _ _ | refine bl_alloc ?_ _ | refine bl_drewN ?_ _ | refine bl_set ?_ (by first | omega | (simp; done) | (simp; omega)) _))) hb_)
  clear hb_ c00 c01 c02 z0
  obtain ⟨c00, c01, c02, z0, hbl⟩ := Lay.op (HFw105.out)
  clear hbl
  go_wp2_with fail
  refine ((HC2 _).out).mono ?_
  rintro e w106 ⟨rfl, hb_⟩
  have HFw106 := Lib.hid (Lay.after (w := w) (B := [(g, a, b, c)]) (Lay.after (HFw105.out) (by repeat (first | exact Below.refl _ _ | refine bl_alloc ?_ _ | refine bl_drewN ?_ _ | refine bl_set ?_ (by first | omega | (simp; done) | (simp; omega)) _))) hb_)
  clear hb_ c00 c01 c02 z0
  obtain ⟨c00, c01, c02, z0, hbl⟩ := Lay.op (HFw106.out)
  clear hbl
  go_wp2_with fail
  refine ((HD1 _).out).mono ?_
  rintro e w107 ⟨rfl, hb_⟩
  have HFw107 := Lib.hid (Lay.after (w := w) (B := [(g, a, b, c)]) (Lay.after (HFw106.out) (by repeat (first | exact Below.refl _ _ | refine bl_alloc ?_ _ | refine bl_drewN ?_ _ | refine bl_set ?_ (by first | omega | (simp; done) | (simp; omega)) _))) hb_)
  clear hb_ c00 c01 c02 z0
  obtain ⟨c00, c01, c02, z0, hbl⟩ := Lay.op (HFw107.out)
  clear hbl
  go_wp2_with fail
  refine ((HD2 _).out).mono ?_
  rintro e w108 ⟨rfl, hb_⟩
  have HFw108 := Lib.hid (Lay.after (w := w) (B := [(g, a, b, c)]) (Lay.after (HFw107.out) (by repeat (first | exact Below.refl _ _ | refine bl_alloc ?_ _ | refine bl_drewN ?_ _ | refine bl_set ?_ (by first | omega | (simp; done) | (simp; omega)) _))) hb_)
  clear hb_ c00 c01 c02 z0
  obtain ⟨c00, c01, c02, z0, hbl⟩ := Lay.op (HFw108.out)
  clear hbl
  go_upto_region 12 with fail
  refine reframe fun T3 hT => ?_
  have hs3 : T3.size = 719 := by subst hT; simp [hs2]
  have q9_3 : At T3 5 (.pointer (some ⟨g, 0, none⟩)) := by subst hT; exact (by first | (simp only [At, ↓Array.getElem?_setIfInBounds_ne, ne_eq, Nat.reduceEqDiff, not_false_eq_true, q9_2]; done) | simp [At, hs2, f9_2, f1001_2, f19_2, f20_2, f21_2, f22_2, f23_2, f24_2, f25_2, f26_2, f27_2, f28_2, f29_2, f30_2])
  have f9_3 := fun hh => getq q9_3 hh
  have q1001_3 : At T3 1 (VY1) := by subst hT; exact (by first | (simp only [At, ↓Array.getElem?_setIfInBounds_ne, ne_eq, Nat.reduceEqDiff, not_false_eq_true, q1001_2]; done) | simp [At, hs2, f9_2, f1001_2, f19_2, f20_2, f21_2, f22_2, f23_2, f24_2, f25_2, f26_2, f27_2, f28_2, f29_2, f30_2])
  have f1001_3 := fun hh => getq q1001_3 hh
  have q19_3 : At T3 6 (.int .i64 N) := by subst hT; exact (by first | (simp only [At, ↓Array.getElem?_setIfInBounds_ne, ne_eq, Nat.reduceEqDiff, not_false_eq_true, q19_2]; done) | simp [At, hs2, f9_2, f1001_2, f19_2, f20_2, f21_2, f22_2, f23_2, f24_2, f25_2, f26_2, f27_2, f28_2, f29_2, f30_2])
  have f19_3 := fun hh => getq q19_3 hh
  have q20_3 : At T3 7 (.int .i64 D) := by subst hT; exact (by first | (simp only [At, ↓Array.getElem?_setIfInBounds_ne, ne_eq, Nat.reduceEqDiff, not_false_eq_true, q20_2]; done) | simp [At, hs2, f9_2, f1001_2, f19_2, f20_2, f21_2, f22_2, f23_2, f24_2, f25_2, f26_2, f27_2, f28_2, f29_2, f30_2])
  have f20_3 := fun hh => getq q20_3 hh
  have q21_3 : At T3 8 (.bool OK) := by subst hT; exact (by first | (simp only [At, ↓Array.getElem?_setIfInBounds_ne, ne_eq, Nat.reduceEqDiff, not_false_eq_true, q21_2]; done) | simp [At, hs2, f9_2, f1001_2, f19_2, f20_2, f21_2, f22_2, f23_2, f24_2, f25_2, f26_2, f27_2, f28_2, f29_2, f30_2])
  have f21_3 := fun hh => getq q21_3 hh
  have q22_3 : At T3 9 (.int .i64 N) := by subst hT; exact (by first | (simp only [At, ↓Array.getElem?_setIfInBounds_ne, ne_eq, Nat.reduceEqDiff, not_false_eq_true, q22_2]; done) | simp [At, hs2, f9_2, f1001_2, f19_2, f20_2, f21_2, f22_2, f23_2, f24_2, f25_2, f26_2, f27_2, f28_2, f29_2, f30_2])
  have f22_3 := fun hh => getq q22_3 hh
  have q23_3 : At T3 10 (.int .i64 D) := by subst hT; exact (by first | (simp only [At, ↓Array.getElem?_setIfInBounds_ne, ne_eq, Nat.reduceEqDiff, not_false_eq_true, q23_2]; done) | simp [At, hs2, f9_2, f1001_2, f19_2, f20_2, f21_2, f22_2, f23_2, f24_2, f25_2, f26_2, f27_2, f28_2, f29_2, f30_2])
  have f23_3 := fun hh => getq q23_3 hh
  have q24_3 : At T3 11 (.bool OK) := by subst hT; exact (by first | (simp only [At, ↓Array.getElem?_setIfInBounds_ne, ne_eq, Nat.reduceEqDiff, not_false_eq_true, q24_2]; done) | simp [At, hs2, f9_2, f1001_2, f19_2, f20_2, f21_2, f22_2, f23_2, f24_2, f25_2, f26_2, f27_2, f28_2, f29_2, f30_2])
  have f24_3 := fun hh => getq q24_3 hh
  have q25_3 : At T3 12 (.int .i64 X) := by subst hT; exact (by first | (simp only [At, ↓Array.getElem?_setIfInBounds_ne, ne_eq, Nat.reduceEqDiff, not_false_eq_true, q25_2]; done) | simp [At, hs2, f9_2, f1001_2, f19_2, f20_2, f21_2, f22_2, f23_2, f24_2, f25_2, f26_2, f27_2, f28_2, f29_2, f30_2])
  have f25_3 := fun hh => getq q25_3 hh
  have q26_3 : At T3 13 (.int .i64 Y) := by subst hT; exact (by first | (simp only [At, ↓Array.getElem?_setIfInBounds_ne, ne_eq, Nat.reduceEqDiff, not_false_eq_true, q26_2]; done) | simp [At, hs2, f9_2, f1001_2, f19_2, f20_2, f21_2, f22_2, f23_2, f24_2, f25_2, f26_2, f27_2, f28_2, f29_2, f30_2])
  have f26_3 := fun hh => getq q26_3 hh
  have q27_3 : At T3 14 (.bool OK) := by subst hT; exact (by first | (simp only [At, ↓Array.getElem?_setIfInBounds_ne, ne_eq, Nat.reduceEqDiff, not_false_eq_true, q27_2]; done) | simp [At, hs2, f9_2, f1001_2, f19_2, f20_2, f21_2, f22_2, f23_2, f24_2, f25_2, f26_2, f27_2, f28_2, f29_2, f30_2])
  have f27_3 := fun hh => getq q27_3 hh
  have q28_3 : At T3 15 (.int .i64 X) := by subst hT; exact (by first | (simp only [At, ↓Array.getElem?_setIfInBounds_ne, ne_eq, Nat.reduceEqDiff, not_false_eq_true, q28_2]; done) | simp [At, hs2, f9_2, f1001_2, f19_2, f20_2, f21_2, f22_2, f23_2, f24_2, f25_2, f26_2, f27_2, f28_2, f29_2, f30_2])
  have f28_3 := fun hh => getq q28_3 hh
  have q29_3 : At T3 16 (.int .i64 Y) := by subst hT; exact (by first | (simp only [At, ↓Array.getElem?_setIfInBounds_ne, ne_eq, Nat.reduceEqDiff, not_false_eq_true, q29_2]; done) | simp [At, hs2, f9_2, f1001_2, f19_2, f20_2, f21_2, f22_2, f23_2, f24_2, f25_2, f26_2, f27_2, f28_2, f29_2, f30_2])
  have f29_3 := fun hh => getq q29_3 hh
  have q30_3 : At T3 17 (.bool OK) := by subst hT; exact (by first | (simp only [At, ↓Array.getElem?_setIfInBounds_ne, ne_eq, Nat.reduceEqDiff, not_false_eq_true, q30_2]; done) | simp [At, hs2, f9_2, f1001_2, f19_2, f20_2, f21_2, f22_2, f23_2, f24_2, f25_2, f26_2, f27_2, f28_2, f29_2, f30_2])
  have f30_3 := fun hh => getq q30_3 hh
  have q31_3 : At T3 18 (.int .i64 G) := by subst hT; exact (by first | (simp only [At, ↓Array.getElem?_setIfInBounds_ne, ne_eq, Nat.reduceEqDiff, not_false_eq_true]; done) | simp [At, hs2, f9_2, f1001_2, f19_2, f20_2, f21_2, f22_2, f23_2, f24_2, f25_2, f26_2, f27_2, f28_2, f29_2, f30_2])
  have f31_3 := fun hh => getq q31_3 hh
  have q32_3 : At T3 19 (.int .i64 H) := by subst hT; exact (by first | (simp only [At, ↓Array.getElem?_setIfInBounds_ne, ne_eq, Nat.reduceEqDiff, not_false_eq_true]; done) | simp [At, hs2, f9_2, f1001_2, f19_2, f20_2, f21_2, f22_2, f23_2, f24_2, f25_2, f26_2, f27_2, f28_2, f29_2, f30_2])
  have f32_3 := fun hh => getq q32_3 hh
  have q33_3 : At T3 20 (.bool OK) := by subst hT; exact (by first | (simp only [At, ↓Array.getElem?_setIfInBounds_ne, ne_eq, Nat.reduceEqDiff, not_false_eq_true]; done) | simp [At, hs2, f9_2, f1001_2, f19_2, f20_2, f21_2, f22_2, f23_2, f24_2, f25_2, f26_2, f27_2, f28_2, f29_2, f30_2])
  have f33_3 := fun hh => getq q33_3 hh
  have q34_3 : At T3 21 (.int .i64 G) := by subst hT; exact (by first | (simp only [At, ↓Array.getElem?_setIfInBounds_ne, ne_eq, Nat.reduceEqDiff, not_false_eq_true]; done) | simp [At, hs2, f9_2, f1001_2, f19_2, f20_2, f21_2, f22_2, f23_2, f24_2, f25_2, f26_2, f27_2, f28_2, f29_2, f30_2])
  have f34_3 := fun hh => getq q34_3 hh
  have q35_3 : At T3 22 (.int .i64 H) := by subst hT; exact (by first | (simp only [At, ↓Array.getElem?_setIfInBounds_ne, ne_eq, Nat.reduceEqDiff, not_false_eq_true]; done) | simp [At, hs2, f9_2, f1001_2, f19_2, f20_2, f21_2, f22_2, f23_2, f24_2, f25_2, f26_2, f27_2, f28_2, f29_2, f30_2])
  have f35_3 := fun hh => getq q35_3 hh
  have q36_3 : At T3 23 (.bool OK) := by subst hT; exact (by first | (simp only [At, ↓Array.getElem?_setIfInBounds_ne, ne_eq, Nat.reduceEqDiff, not_false_eq_true]; done) | simp [At, hs2, f9_2, f1001_2, f19_2, f20_2, f21_2, f22_2, f23_2, f24_2, f25_2, f26_2, f27_2, f28_2, f29_2, f30_2])
  have f36_3 := fun hh => getq q36_3 hh
  have q37_3 : At T3 24 (.int .i64 U) := by subst hT; exact (by first | (simp only [At, ↓Array.getElem?_setIfInBounds_ne, ne_eq, Nat.reduceEqDiff, not_false_eq_true]; done) | simp [At, hs2, f9_2, f1001_2, f19_2, f20_2, f21_2, f22_2, f23_2, f24_2, f25_2, f26_2, f27_2, f28_2, f29_2, f30_2])
  have f37_3 := fun hh => getq q37_3 hh
  have q38_3 : At T3 25 (.int .i64 V) := by subst hT; exact (by first | (simp only [At, ↓Array.getElem?_setIfInBounds_ne, ne_eq, Nat.reduceEqDiff, not_false_eq_true]; done) | simp [At, hs2, f9_2, f1001_2, f19_2, f20_2, f21_2, f22_2, f23_2, f24_2, f25_2, f26_2, f27_2, f28_2, f29_2, f30_2])
  have f38_3 := fun hh => getq q38_3 hh
  have q39_3 : At T3 26 (.bool OK) := by subst hT; exact (by first | (simp only [At, ↓Array.getElem?_setIfInBounds_ne, ne_eq, Nat.reduceEqDiff, not_false_eq_true]; done) | simp [At, hs2, f9_2, f1001_2, f19_2, f20_2, f21_2, f22_2, f23_2, f24_2, f25_2, f26_2, f27_2, f28_2, f29_2, f30_2])
  have f39_3 := fun hh => getq q39_3 hh
  have q40_3 : At T3 27 (.int .i64 U) := by subst hT; exact (by first | (simp only [At, ↓Array.getElem?_setIfInBounds_ne, ne_eq, Nat.reduceEqDiff, not_false_eq_true]; done) | simp [At, hs2, f9_2, f1001_2, f19_2, f20_2, f21_2, f22_2, f23_2, f24_2, f25_2, f26_2, f27_2, f28_2, f29_2, f30_2])
  have f40_3 := fun hh => getq q40_3 hh
  have q41_3 : At T3 28 (.int .i64 V) := by subst hT; exact (by first | (simp only [At, ↓Array.getElem?_setIfInBounds_ne, ne_eq, Nat.reduceEqDiff, not_false_eq_true]; done) | simp [At, hs2, f9_2, f1001_2, f19_2, f20_2, f21_2, f22_2, f23_2, f24_2, f25_2, f26_2, f27_2, f28_2, f29_2, f30_2])
  have f41_3 := fun hh => getq q41_3 hh
  have q42_3 : At T3 29 (.bool OK) := by subst hT; exact (by first | (simp only [At, ↓Array.getElem?_setIfInBounds_ne, ne_eq, Nat.reduceEqDiff, not_false_eq_true]; done) | simp [At, hs2, f9_2, f1001_2, f19_2, f20_2, f21_2, f22_2, f23_2, f24_2, f25_2, f26_2, f27_2, f28_2, f29_2, f30_2])
  have f42_3 := fun hh => getq q42_3 hh
  clear hT f30_2 f29_2 f28_2 f27_2 f26_2 f25_2 f24_2 f23_2 f22_2 f21_2 f20_2 f19_2 f1001_2 f9_2 hs2 q9_2 q1001_2 q19_2 q20_2 q21_2 q22_2 q23_2 q24_2 q25_2 q26_2 q27_2 q28_2 q29_2 q30_2
  go_wp2_with fail
  refine ((HE1 _).out).mono ?_
  rintro e w109 ⟨rfl, hb_⟩
  have HFw109 := Lib.hid (Lay.after (w := w) (B := [(g, a, b, c)]) (Lay.after (HFw108.out) (by repeat (first | exact Below.refl _ _ | refine bl_alloc ?_ _ | refine bl_drewN ?_ _ | refine bl_set ?_ (by first | omega | (simp; done) | (simp; omega)) _))) hb_)
  clear hb_ c00 c01 c02 z0
  obtain ⟨c00, c01, c02, z0, hbl⟩ := Lay.op (HFw109.out)
  clear hbl
  go_wp2_with fail
  refine ((HE2 _).out).mono ?_
  rintro e w110 ⟨rfl, hb_⟩
  have HFw110 := Lib.hid (Lay.after (w := w) (B := [(g, a, b, c)]) (Lay.after (HFw109.out) (by repeat (first | exact Below.refl _ _ | refine bl_alloc ?_ _ | refine bl_drewN ?_ _ | refine bl_set ?_ (by first | omega | (simp; done) | (simp; omega)) _))) hb_)
  clear hb_ c00 c01 c02 z0
  obtain ⟨c00, c01, c02, z0, hbl⟩ := Lay.op (HFw110.out)
  clear hbl
  go_wp2_with fail
  refine ((HT1 _ (HTA.out.below (Lay.bl (HFw110.out)))).out).mono ?_
  rintro e w111 ⟨rfl, hb_⟩
  have HFw111 := Lib.hid (Lay.after (w := w) (B := [(g, a, b, c)]) (Lay.after (HFw110.out) (by repeat (first | exact Below.refl _ _ | refine bl_alloc ?_ _ | refine bl_drewN ?_ _ | refine bl_set ?_ (by first | omega | (simp; done) | (simp; omega)) _))) hb_)
  clear hb_ c00 c01 c02 z0
  obtain ⟨c00, c01, c02, z0, hbl⟩ := Lay.op (HFw111.out)
  clear hbl
  go_wp2_with fail
  refine ((HT2 _).out).mono ?_
  rintro e w112 ⟨rfl, hb_⟩
  have HFw112 := Lib.hid (Lay.after (w := w) (B := [(g, a, b, c)]) (Lay.after (HFw111.out) (by repeat (first | exact Below.refl _ _ | refine bl_alloc ?_ _ | refine bl_drewN ?_ _ | refine bl_set ?_ (by first | omega | (simp; done) | (simp; omega)) _))) hb_)
  clear hb_ c00 c01 c02 z0
  obtain ⟨c00, c01, c02, z0, hbl⟩ := Lay.op (HFw112.out)
  clear hbl
  go_upto_region 16 with fail
  refine reframe fun T4 hT => ?_
  have hs4 : T4.size = 719 := by subst hT; simp [hs3]
  have q9_4 : At T4 5 (.pointer (some ⟨g, 0, none⟩)) := by subst hT; exact (by first | (simp only [At, ↓Array.getElem?_setIfInBounds_ne, ne_eq, Nat.reduceEqDiff, not_false_eq_true, q9_3]; done) | simp [At, hs3, f9_3, f1001_3, f19_3, f20_3, f21_3, f22_3, f23_3, f24_3, f25_3, f26_3, f27_3, f28_3, f29_3, f30_3, f31_3, f32_3, f33_3, f34_3, f35_3, f36_3, f37_3, f38_3, f39_3, f40_3, f41_3, f42_3])
  have f9_4 := fun hh => getq q9_4 hh
  have q1001_4 : At T4 1 (VY1) := by subst hT; exact (by first | (simp only [At, ↓Array.getElem?_setIfInBounds_ne, ne_eq, Nat.reduceEqDiff, not_false_eq_true, q1001_3]; done) | simp [At, hs3, f9_3, f1001_3, f19_3, f20_3, f21_3, f22_3, f23_3, f24_3, f25_3, f26_3, f27_3, f28_3, f29_3, f30_3, f31_3, f32_3, f33_3, f34_3, f35_3, f36_3, f37_3, f38_3, f39_3, f40_3, f41_3, f42_3])
  have f1001_4 := fun hh => getq q1001_4 hh
  have q19_4 : At T4 6 (.int .i64 N) := by subst hT; exact (by first | (simp only [At, ↓Array.getElem?_setIfInBounds_ne, ne_eq, Nat.reduceEqDiff, not_false_eq_true, q19_3]; done) | simp [At, hs3, f9_3, f1001_3, f19_3, f20_3, f21_3, f22_3, f23_3, f24_3, f25_3, f26_3, f27_3, f28_3, f29_3, f30_3, f31_3, f32_3, f33_3, f34_3, f35_3, f36_3, f37_3, f38_3, f39_3, f40_3, f41_3, f42_3])
  have f19_4 := fun hh => getq q19_4 hh
  have q20_4 : At T4 7 (.int .i64 D) := by subst hT; exact (by first | (simp only [At, ↓Array.getElem?_setIfInBounds_ne, ne_eq, Nat.reduceEqDiff, not_false_eq_true, q20_3]; done) | simp [At, hs3, f9_3, f1001_3, f19_3, f20_3, f21_3, f22_3, f23_3, f24_3, f25_3, f26_3, f27_3, f28_3, f29_3, f30_3, f31_3, f32_3, f33_3, f34_3, f35_3, f36_3, f37_3, f38_3, f39_3, f40_3, f41_3, f42_3])
  have f20_4 := fun hh => getq q20_4 hh
  have q21_4 : At T4 8 (.bool OK) := by subst hT; exact (by first | (simp only [At, ↓Array.getElem?_setIfInBounds_ne, ne_eq, Nat.reduceEqDiff, not_false_eq_true, q21_3]; done) | simp [At, hs3, f9_3, f1001_3, f19_3, f20_3, f21_3, f22_3, f23_3, f24_3, f25_3, f26_3, f27_3, f28_3, f29_3, f30_3, f31_3, f32_3, f33_3, f34_3, f35_3, f36_3, f37_3, f38_3, f39_3, f40_3, f41_3, f42_3])
  have f21_4 := fun hh => getq q21_4 hh
  have q22_4 : At T4 9 (.int .i64 N) := by subst hT; exact (by first | (simp only [At, ↓Array.getElem?_setIfInBounds_ne, ne_eq, Nat.reduceEqDiff, not_false_eq_true, q22_3]; done) | simp [At, hs3, f9_3, f1001_3, f19_3, f20_3, f21_3, f22_3, f23_3, f24_3, f25_3, f26_3, f27_3, f28_3, f29_3, f30_3, f31_3, f32_3, f33_3, f34_3, f35_3, f36_3, f37_3, f38_3, f39_3, f40_3, f41_3, f42_3])
  have f22_4 := fun hh => getq q22_4 hh
  have q23_4 : At T4 10 (.int .i64 D) := by subst hT; exact (by first | (simp only [At, ↓Array.getElem?_setIfInBounds_ne, ne_eq, Nat.reduceEqDiff, not_false_eq_true, q23_3]; done) | simp [At, hs3, f9_3, f1001_3, f19_3, f20_3, f21_3, f22_3, f23_3, f24_3, f25_3, f26_3, f27_3, f28_3, f29_3, f30_3, f31_3, f32_3, f33_3, f34_3, f35_3, f36_3, f37_3, f38_3, f39_3, f40_3, f41_3, f42_3])
  have f23_4 := fun hh => getq q23_4 hh
  have q24_4 : At T4 11 (.bool OK) := by subst hT; exact (by first | (simp only [At, ↓Array.getElem?_setIfInBounds_ne, ne_eq, Nat.reduceEqDiff, not_false_eq_true, q24_3]; done) | simp [At, hs3, f9_3, f1001_3, f19_3, f20_3, f21_3, f22_3, f23_3, f24_3, f25_3, f26_3, f27_3, f28_3, f29_3, f30_3, f31_3, f32_3, f33_3, f34_3, f35_3, f36_3, f37_3, f38_3, f39_3, f40_3, f41_3, f42_3])
  have f24_4 := fun hh => getq q24_4 hh
  have q25_4 : At T4 12 (.int .i64 X) := by subst hT; exact (by first | (simp only [At, ↓Array.getElem?_setIfInBounds_ne, ne_eq, Nat.reduceEqDiff, not_false_eq_true, q25_3]; done) | simp [At, hs3, f9_3, f1001_3, f19_3, f20_3, f21_3, f22_3, f23_3, f24_3, f25_3, f26_3, f27_3, f28_3, f29_3, f30_3, f31_3, f32_3, f33_3, f34_3, f35_3, f36_3, f37_3, f38_3, f39_3, f40_3, f41_3, f42_3])
  have f25_4 := fun hh => getq q25_4 hh
  have q26_4 : At T4 13 (.int .i64 Y) := by subst hT; exact (by first | (simp only [At, ↓Array.getElem?_setIfInBounds_ne, ne_eq, Nat.reduceEqDiff, not_false_eq_true, q26_3]; done) | simp [At, hs3, f9_3, f1001_3, f19_3, f20_3, f21_3, f22_3, f23_3, f24_3, f25_3, f26_3, f27_3, f28_3, f29_3, f30_3, f31_3, f32_3, f33_3, f34_3, f35_3, f36_3, f37_3, f38_3, f39_3, f40_3, f41_3, f42_3])
  have f26_4 := fun hh => getq q26_4 hh
  have q27_4 : At T4 14 (.bool OK) := by subst hT; exact (by first | (simp only [At, ↓Array.getElem?_setIfInBounds_ne, ne_eq, Nat.reduceEqDiff, not_false_eq_true, q27_3]; done) | simp [At, hs3, f9_3, f1001_3, f19_3, f20_3, f21_3, f22_3, f23_3, f24_3, f25_3, f26_3, f27_3, f28_3, f29_3, f30_3, f31_3, f32_3, f33_3, f34_3, f35_3, f36_3, f37_3, f38_3, f39_3, f40_3, f41_3, f42_3])
  have f27_4 := fun hh => getq q27_4 hh
  have q28_4 : At T4 15 (.int .i64 X) := by subst hT; exact (by first | (simp only [At, ↓Array.getElem?_setIfInBounds_ne, ne_eq, Nat.reduceEqDiff, not_false_eq_true, q28_3]; done) | simp [At, hs3, f9_3, f1001_3, f19_3, f20_3, f21_3, f22_3, f23_3, f24_3, f25_3, f26_3, f27_3, f28_3, f29_3, f30_3, f31_3, f32_3, f33_3, f34_3, f35_3, f36_3, f37_3, f38_3, f39_3, f40_3, f41_3, f42_3])
  have f28_4 := fun hh => getq q28_4 hh
  have q29_4 : At T4 16 (.int .i64 Y) := by subst hT; exact (by first | (simp only [At, ↓Array.getElem?_setIfInBounds_ne, ne_eq, Nat.reduceEqDiff, not_false_eq_true, q29_3]; done) | simp [At, hs3, f9_3, f1001_3, f19_3, f20_3, f21_3, f22_3, f23_3, f24_3, f25_3, f26_3, f27_3, f28_3, f29_3, f30_3, f31_3, f32_3, f33_3, f34_3, f35_3, f36_3, f37_3, f38_3, f39_3, f40_3, f41_3, f42_3])
  have f29_4 := fun hh => getq q29_4 hh
  have q30_4 : At T4 17 (.bool OK) := by subst hT; exact (by first | (simp only [At, ↓Array.getElem?_setIfInBounds_ne, ne_eq, Nat.reduceEqDiff, not_false_eq_true, q30_3]; done) | simp [At, hs3, f9_3, f1001_3, f19_3, f20_3, f21_3, f22_3, f23_3, f24_3, f25_3, f26_3, f27_3, f28_3, f29_3, f30_3, f31_3, f32_3, f33_3, f34_3, f35_3, f36_3, f37_3, f38_3, f39_3, f40_3, f41_3, f42_3])
  have f30_4 := fun hh => getq q30_4 hh
  have q31_4 : At T4 18 (.int .i64 G) := by subst hT; exact (by first | (simp only [At, ↓Array.getElem?_setIfInBounds_ne, ne_eq, Nat.reduceEqDiff, not_false_eq_true, q31_3]; done) | simp [At, hs3, f9_3, f1001_3, f19_3, f20_3, f21_3, f22_3, f23_3, f24_3, f25_3, f26_3, f27_3, f28_3, f29_3, f30_3, f31_3, f32_3, f33_3, f34_3, f35_3, f36_3, f37_3, f38_3, f39_3, f40_3, f41_3, f42_3])
  have f31_4 := fun hh => getq q31_4 hh
  have q32_4 : At T4 19 (.int .i64 H) := by subst hT; exact (by first | (simp only [At, ↓Array.getElem?_setIfInBounds_ne, ne_eq, Nat.reduceEqDiff, not_false_eq_true, q32_3]; done) | simp [At, hs3, f9_3, f1001_3, f19_3, f20_3, f21_3, f22_3, f23_3, f24_3, f25_3, f26_3, f27_3, f28_3, f29_3, f30_3, f31_3, f32_3, f33_3, f34_3, f35_3, f36_3, f37_3, f38_3, f39_3, f40_3, f41_3, f42_3])
  have f32_4 := fun hh => getq q32_4 hh
  have q33_4 : At T4 20 (.bool OK) := by subst hT; exact (by first | (simp only [At, ↓Array.getElem?_setIfInBounds_ne, ne_eq, Nat.reduceEqDiff, not_false_eq_true, q33_3]; done) | simp [At, hs3, f9_3, f1001_3, f19_3, f20_3, f21_3, f22_3, f23_3, f24_3, f25_3, f26_3, f27_3, f28_3, f29_3, f30_3, f31_3, f32_3, f33_3, f34_3, f35_3, f36_3, f37_3, f38_3, f39_3, f40_3, f41_3, f42_3])
  have f33_4 := fun hh => getq q33_4 hh
  have q34_4 : At T4 21 (.int .i64 G) := by subst hT; exact (by first | (simp only [At, ↓Array.getElem?_setIfInBounds_ne, ne_eq, Nat.reduceEqDiff, not_false_eq_true, q34_3]; done) | simp [At, hs3, f9_3, f1001_3, f19_3, f20_3, f21_3, f22_3, f23_3, f24_3, f25_3, f26_3, f27_3, f28_3, f29_3, f30_3, f31_3, f32_3, f33_3, f34_3, f35_3, f36_3, f37_3, f38_3, f39_3, f40_3, f41_3, f42_3])
  have f34_4 := fun hh => getq q34_4 hh
  have q35_4 : At T4 22 (.int .i64 H) := by subst hT; exact (by first | (simp only [At, ↓Array.getElem?_setIfInBounds_ne, ne_eq, Nat.reduceEqDiff, not_false_eq_true, q35_3]; done) | simp [At, hs3, f9_3, f1001_3, f19_3, f20_3, f21_3, f22_3, f23_3, f24_3, f25_3, f26_3, f27_3, f28_3, f29_3, f30_3, f31_3, f32_3, f33_3, f34_3, f35_3, f36_3, f37_3, f38_3, f39_3, f40_3, f41_3, f42_3])
  have f35_4 := fun hh => getq q35_4 hh
  have q36_4 : At T4 23 (.bool OK) := by subst hT; exact (by first | (simp only [At, ↓Array.getElem?_setIfInBounds_ne, ne_eq, Nat.reduceEqDiff, not_false_eq_true, q36_3]; done) | simp [At, hs3, f9_3, f1001_3, f19_3, f20_3, f21_3, f22_3, f23_3, f24_3, f25_3, f26_3, f27_3, f28_3, f29_3, f30_3, f31_3, f32_3, f33_3, f34_3, f35_3, f36_3, f37_3, f38_3, f39_3, f40_3, f41_3, f42_3])
  have f36_4 := fun hh => getq q36_4 hh
  have q37_4 : At T4 24 (.int .i64 U) := by subst hT; exact (by first | (simp only [At, ↓Array.getElem?_setIfInBounds_ne, ne_eq, Nat.reduceEqDiff, not_false_eq_true, q37_3]; done) | simp [At, hs3, f9_3, f1001_3, f19_3, f20_3, f21_3, f22_3, f23_3, f24_3, f25_3, f26_3, f27_3, f28_3, f29_3, f30_3, f31_3, f32_3, f33_3, f34_3, f35_3, f36_3, f37_3, f38_3, f39_3, f40_3, f41_3, f42_3])
  have f37_4 := fun hh => getq q37_4 hh
  have q38_4 : At T4 25 (.int .i64 V) := by subst hT; exact (by first | (simp only [At, ↓Array.getElem?_setIfInBounds_ne, ne_eq, Nat.reduceEqDiff, not_false_eq_true, q38_3]; done) | simp [At, hs3, f9_3, f1001_3, f19_3, f20_3, f21_3, f22_3, f23_3, f24_3, f25_3, f26_3, f27_3, f28_3, f29_3, f30_3, f31_3, f32_3, f33_3, f34_3, f35_3, f36_3, f37_3, f38_3, f39_3, f40_3, f41_3, f42_3])
  have f38_4 := fun hh => getq q38_4 hh
  have q39_4 : At T4 26 (.bool OK) := by subst hT; exact (by first | (simp only [At, ↓Array.getElem?_setIfInBounds_ne, ne_eq, Nat.reduceEqDiff, not_false_eq_true, q39_3]; done) | simp [At, hs3, f9_3, f1001_3, f19_3, f20_3, f21_3, f22_3, f23_3, f24_3, f25_3, f26_3, f27_3, f28_3, f29_3, f30_3, f31_3, f32_3, f33_3, f34_3, f35_3, f36_3, f37_3, f38_3, f39_3, f40_3, f41_3, f42_3])
  have f39_4 := fun hh => getq q39_4 hh
  have q40_4 : At T4 27 (.int .i64 U) := by subst hT; exact (by first | (simp only [At, ↓Array.getElem?_setIfInBounds_ne, ne_eq, Nat.reduceEqDiff, not_false_eq_true, q40_3]; done) | simp [At, hs3, f9_3, f1001_3, f19_3, f20_3, f21_3, f22_3, f23_3, f24_3, f25_3, f26_3, f27_3, f28_3, f29_3, f30_3, f31_3, f32_3, f33_3, f34_3, f35_3, f36_3, f37_3, f38_3, f39_3, f40_3, f41_3, f42_3])
  have f40_4 := fun hh => getq q40_4 hh
  have q41_4 : At T4 28 (.int .i64 V) := by subst hT; exact (by first | (simp only [At, ↓Array.getElem?_setIfInBounds_ne, ne_eq, Nat.reduceEqDiff, not_false_eq_true, q41_3]; done) | simp [At, hs3, f9_3, f1001_3, f19_3, f20_3, f21_3, f22_3, f23_3, f24_3, f25_3, f26_3, f27_3, f28_3, f29_3, f30_3, f31_3, f32_3, f33_3, f34_3, f35_3, f36_3, f37_3, f38_3, f39_3, f40_3, f41_3, f42_3])
  have f41_4 := fun hh => getq q41_4 hh
  have q42_4 : At T4 29 (.bool OK) := by subst hT; exact (by first | (simp only [At, ↓Array.getElem?_setIfInBounds_ne, ne_eq, Nat.reduceEqDiff, not_false_eq_true, q42_3]; done) | simp [At, hs3, f9_3, f1001_3, f19_3, f20_3, f21_3, f22_3, f23_3, f24_3, f25_3, f26_3, f27_3, f28_3, f29_3, f30_3, f31_3, f32_3, f33_3, f34_3, f35_3, f36_3, f37_3, f38_3, f39_3, f40_3, f41_3, f42_3])
  have f42_4 := fun hh => getq q42_4 hh
  have q43_4 : At T4 30 (.int .i64 K) := by subst hT; exact (by first | (simp only [At, ↓Array.getElem?_setIfInBounds_ne, ne_eq, Nat.reduceEqDiff, not_false_eq_true]; done) | simp [At, hs3, f9_3, f1001_3, f19_3, f20_3, f21_3, f22_3, f23_3, f24_3, f25_3, f26_3, f27_3, f28_3, f29_3, f30_3, f31_3, f32_3, f33_3, f34_3, f35_3, f36_3, f37_3, f38_3, f39_3, f40_3, f41_3, f42_3])
  have f43_4 := fun hh => getq q43_4 hh
  have q44_4 : At T4 31 (.bool OK) := by subst hT; exact (by first | (simp only [At, ↓Array.getElem?_setIfInBounds_ne, ne_eq, Nat.reduceEqDiff, not_false_eq_true]; done) | simp [At, hs3, f9_3, f1001_3, f19_3, f20_3, f21_3, f22_3, f23_3, f24_3, f25_3, f26_3, f27_3, f28_3, f29_3, f30_3, f31_3, f32_3, f33_3, f34_3, f35_3, f36_3, f37_3, f38_3, f39_3, f40_3, f41_3, f42_3])
  have f44_4 := fun hh => getq q44_4 hh
  have q45_4 : At T4 32 (.int .i64 K) := by subst hT; exact (by first | (simp only [At, ↓Array.getElem?_setIfInBounds_ne, ne_eq, Nat.reduceEqDiff, not_false_eq_true]; done) | simp [At, hs3, f9_3, f1001_3, f19_3, f20_3, f21_3, f22_3, f23_3, f24_3, f25_3, f26_3, f27_3, f28_3, f29_3, f30_3, f31_3, f32_3, f33_3, f34_3, f35_3, f36_3, f37_3, f38_3, f39_3, f40_3, f41_3, f42_3])
  have f45_4 := fun hh => getq q45_4 hh
  have q46_4 : At T4 33 (.bool OK) := by subst hT; exact (by first | (simp only [At, ↓Array.getElem?_setIfInBounds_ne, ne_eq, Nat.reduceEqDiff, not_false_eq_true]; done) | simp [At, hs3, f9_3, f1001_3, f19_3, f20_3, f21_3, f22_3, f23_3, f24_3, f25_3, f26_3, f27_3, f28_3, f29_3, f30_3, f31_3, f32_3, f33_3, f34_3, f35_3, f36_3, f37_3, f38_3, f39_3, f40_3, f41_3, f42_3])
  have f46_4 := fun hh => getq q46_4 hh
  have q47_4 : At T4 34 (.string tx) := by subst hT; exact (by first | (simp only [At, ↓Array.getElem?_setIfInBounds_ne, ne_eq, Nat.reduceEqDiff, not_false_eq_true]; done) | simp [At, hs3, f9_3, f1001_3, f19_3, f20_3, f21_3, f22_3, f23_3, f24_3, f25_3, f26_3, f27_3, f28_3, f29_3, f30_3, f31_3, f32_3, f33_3, f34_3, f35_3, f36_3, f37_3, f38_3, f39_3, f40_3, f41_3, f42_3])
  have f47_4 := fun hh => getq q47_4 hh
  have q48_4 : At T4 35 (.bool OK) := by subst hT; exact (by first | (simp only [At, ↓Array.getElem?_setIfInBounds_ne, ne_eq, Nat.reduceEqDiff, not_false_eq_true]; done) | simp [At, hs3, f9_3, f1001_3, f19_3, f20_3, f21_3, f22_3, f23_3, f24_3, f25_3, f26_3, f27_3, f28_3, f29_3, f30_3, f31_3, f32_3, f33_3, f34_3, f35_3, f36_3, f37_3, f38_3, f39_3, f40_3, f41_3, f42_3])
  have f48_4 := fun hh => getq q48_4 hh
  have q49_4 : At T4 36 (.string tx) := by subst hT; exact (by first | (simp only [At, ↓Array.getElem?_setIfInBounds_ne, ne_eq, Nat.reduceEqDiff, not_false_eq_true]; done) | simp [At, hs3, f9_3, f1001_3, f19_3, f20_3, f21_3, f22_3, f23_3, f24_3, f25_3, f26_3, f27_3, f28_3, f29_3, f30_3, f31_3, f32_3, f33_3, f34_3, f35_3, f36_3, f37_3, f38_3, f39_3, f40_3, f41_3, f42_3])
  have f49_4 := fun hh => getq q49_4 hh
  have q50_4 : At T4 37 (.bool OK) := by subst hT; exact (by first | (simp only [At, ↓Array.getElem?_setIfInBounds_ne, ne_eq, Nat.reduceEqDiff, not_false_eq_true]; done) | simp [At, hs3, f9_3, f1001_3, f19_3, f20_3, f21_3, f22_3, f23_3, f24_3, f25_3, f26_3, f27_3, f28_3, f29_3, f30_3, f31_3, f32_3, f33_3, f34_3, f35_3, f36_3, f37_3, f38_3, f39_3, f40_3, f41_3, f42_3])
  have f50_4 := fun hh => getq q50_4 hh
  clear hT f42_3 f41_3 f40_3 f39_3 f38_3 f37_3 f36_3 f35_3 f34_3 f33_3 f32_3 f31_3 f30_3 f29_3 f28_3 f27_3 f26_3 f25_3 f24_3 f23_3 f22_3 f21_3 f20_3 f19_3 f1001_3 f9_3 hs3 q9_3 q1001_3 q19_3 q20_3 q21_3 q22_3 q23_3 q24_3 q25_3 q26_3 q27_3 q28_3 q29_3 q30_3 q31_3 q32_3 q33_3 q34_3 q35_3 q36_3 q37_3 q38_3 q39_3 q40_3 q41_3 q42_3
  go_wp2_with fail
  refine ((HM1 _).out).mono ?_
  rintro e w113 ⟨rfl, hb_⟩
  have HFw113 := Lib.hid (Lay.after (w := w) (B := [(g, a, b, c)]) (Lay.after (HFw112.out) (by repeat (first | exact Below.refl _ _ | refine bl_alloc ?_ _ | refine bl_drewN ?_ _ | refine bl_set ?_ (by first | omega | (simp; done) | (simp; omega)) _))) hb_)
  clear hb_ c00 c01 c02 z0
  obtain ⟨c00, c01, c02, z0, hbl⟩ := Lay.op (HFw113.out)
  clear hbl
  go_wp2_with fail
  refine ((HM2 _).out).mono ?_
  rintro e w114 ⟨rfl, hb_⟩
  have HFw114 := Lib.hid (Lay.after (w := w) (B := [(w113.heap.size, m1, m2, m3), (g, a, b, c)]) (Lay.c (g := w113.heap.size) (x0 := m1) (x1 := m2) (x2 := m3) (by simp [go_sem]) (by simp [go_sem]) (by simp [go_sem]) (by first | (simp; done) | (simp; omega)) (Lay.after (HFw113.out) (by repeat (first | exact Below.refl _ _ | refine bl_alloc ?_ _ | refine bl_drewN ?_ _ | refine bl_set ?_ (by first | omega | (simp; done) | (simp; omega)) _)))) hb_)
  clear hb_ c00 c01 c02 z0
  obtain ⟨c00, c01, c02, z0, c10, c11, c12, z1, hbl⟩ := Lay.op (HFw114.out)
  clear hbl
  go_upto_region 18 with fail
  refine reframe fun T5 hT => ?_
  have hs5 : T5.size = 719 := by subst hT; simp [hs4]
  have q9_5 : At T5 5 (.pointer (some ⟨g, 0, none⟩)) := by subst hT; exact (by first | (simp only [At, ↓Array.getElem?_setIfInBounds_ne, ne_eq, Nat.reduceEqDiff, not_false_eq_true, q9_4]; done) | simp [At, hs4, f9_4, f1001_4, f19_4, f20_4, f21_4, f22_4, f23_4, f24_4, f25_4, f26_4, f27_4, f28_4, f29_4, f30_4, f31_4, f32_4, f33_4, f34_4, f35_4, f36_4, f37_4, f38_4, f39_4, f40_4, f41_4, f42_4, f43_4, f44_4, f45_4, f46_4, f47_4, f48_4, f49_4, f50_4])
  have f9_5 := fun hh => getq q9_5 hh
  have q1001_5 : At T5 1 (VY1) := by subst hT; exact (by first | (simp only [At, ↓Array.getElem?_setIfInBounds_ne, ne_eq, Nat.reduceEqDiff, not_false_eq_true, q1001_4]; done) | simp [At, hs4, f9_4, f1001_4, f19_4, f20_4, f21_4, f22_4, f23_4, f24_4, f25_4, f26_4, f27_4, f28_4, f29_4, f30_4, f31_4, f32_4, f33_4, f34_4, f35_4, f36_4, f37_4, f38_4, f39_4, f40_4, f41_4, f42_4, f43_4, f44_4, f45_4, f46_4, f47_4, f48_4, f49_4, f50_4])
  have f1001_5 := fun hh => getq q1001_5 hh
  have q19_5 : At T5 6 (.int .i64 N) := by subst hT; exact (by first | (simp only [At, ↓Array.getElem?_setIfInBounds_ne, ne_eq, Nat.reduceEqDiff, not_false_eq_true, q19_4]; done) | simp [At, hs4, f9_4, f1001_4, f19_4, f20_4, f21_4, f22_4, f23_4, f24_4, f25_4, f26_4, f27_4, f28_4, f29_4, f30_4, f31_4, f32_4, f33_4, f34_4, f35_4, f36_4, f37_4, f38_4, f39_4, f40_4, f41_4, f42_4, f43_4, f44_4, f45_4, f46_4, f47_4, f48_4, f49_4, f50_4])
  have f19_5 := fun hh => getq q19_5 hh
  have q20_5 : At T5 7 (.int .i64 D) := by subst hT; exact (by first | (simp only [At, ↓Array.getElem?_setIfInBounds_ne, ne_eq, Nat.reduceEqDiff, not_false_eq_true, q20_4]; done) | simp [At, hs4, f9_4, f1001_4, f19_4, f20_4, f21_4, f22_4, f23_4, f24_4, f25_4, f26_4, f27_4, f28_4, f29_4, f30_4, f31_4, f32_4, f33_4, f34_4, f35_4, f36_4, f37_4, f38_4, f39_4, f40_4, f41_4, f42_4, f43_4, f44_4, f45_4, f46_4, f47_4, f48_4, f49_4, f50_4])
  have f20_5 := fun hh => getq q20_5 hh
  have q21_5 : At T5 8 (.bool OK) := by subst hT; exact (by first | (simp only [At, ↓Array.getElem?_setIfInBounds_ne, ne_eq, Nat.reduceEqDiff, not_false_eq_true, q21_4]; done) | simp [At, hs4, f9_4, f1001_4, f19_4, f20_4, f21_4, f22_4, f23_4, f24_4, f25_4, f26_4, f27_4, f28_4, f29_4, f30_4, f31_4, f32_4, f33_4, f34_4, f35_4, f36_4, f37_4, f38_4, f39_4, f40_4, f41_4, f42_4, f43_4, f44_4, f45_4, f46_4, f47_4, f48_4, f49_4, f50_4])
  have f21_5 := fun hh => getq q21_5 hh
  have q22_5 : At T5 9 (.int .i64 N) := by subst hT; exact (by first | (simp only [At, ↓Array.getElem?_setIfInBounds_ne, ne_eq, Nat.reduceEqDiff, not_false_eq_true, q22_4]; done) | simp [At, hs4, f9_4, f1001_4, f19_4, f20_4, f21_4, f22_4, f23_4, f24_4, f25_4, f26_4, f27_4, f28_4, f29_4, f30_4, f31_4, f32_4, f33_4, f34_4, f35_4, f36_4, f37_4, f38_4, f39_4, f40_4, f41_4, f42_4, f43_4, f44_4, f45_4, f46_4, f47_4, f48_4, f49_4, f50_4])
  have f22_5 := fun hh => getq q22_5 hh
  have q23_5 : At T5 10 (.int .i64 D) := by subst hT; exact (by first | (simp only [At, ↓Array.getElem?_setIfInBounds_ne, ne_eq, Nat.reduceEqDiff, not_false_eq_true, q23_4]; done) | simp [At, hs4, f9_4, f1001_4, f19_4, f20_4, f21_4, f22_4, f23_4, f24_4, f25_4, f26_4, f27_4, f28_4, f29_4, f30_4, f31_4, f32_4, f33_4, f34_4, f35_4, f36_4, f37_4, f38_4, f39_4, f40_4, f41_4, f42_4, f43_4, f44_4, f45_4, f46_4, f47_4, f48_4, f49_4, f50_4])
  have f23_5 := fun hh => getq q23_5 hh
  have q24_5 : At T5 11 (.bool OK) := by subst hT; exact (by first | (simp only [At, ↓Array.getElem?_setIfInBounds_ne, ne_eq, Nat.reduceEqDiff, not_false_eq_true, q24_4]; done) | simp [At, hs4, f9_4, f1001_4, f19_4, f20_4, f21_4, f22_4, f23_4, f24_4, f25_4, f26_4, f27_4, f28_4, f29_4, f30_4, f31_4, f32_4, f33_4, f34_4, f35_4, f36_4, f37_4, f38_4, f39_4, f40_4, f41_4, f42_4, f43_4, f44_4, f45_4, f46_4, f47_4, f48_4, f49_4, f50_4])
  have f24_5 := fun hh => getq q24_5 hh
  have q25_5 : At T5 12 (.int .i64 X) := by subst hT; exact (by first | (simp only [At, ↓Array.getElem?_setIfInBounds_ne, ne_eq, Nat.reduceEqDiff, not_false_eq_true, q25_4]; done) | simp [At, hs4, f9_4, f1001_4, f19_4, f20_4, f21_4, f22_4, f23_4, f24_4, f25_4, f26_4, f27_4, f28_4, f29_4, f30_4, f31_4, f32_4, f33_4, f34_4, f35_4, f36_4, f37_4, f38_4, f39_4, f40_4, f41_4, f42_4, f43_4, f44_4, f45_4, f46_4, f47_4, f48_4, f49_4, f50_4])
  have f25_5 := fun hh => getq q25_5 hh
  have q26_5 : At T5 13 (.int .i64 Y) := by subst hT; exact (by first | (simp only [At, ↓Array.getElem?_setIfInBounds_ne, ne_eq, Nat.reduceEqDiff, not_false_eq_true, q26_4]; done) | simp [At, hs4, f9_4, f1001_4, f19_4, f20_4, f21_4, f22_4, f23_4, f24_4, f25_4, f26_4, f27_4, f28_4, f29_4, f30_4, f31_4, f32_4, f33_4, f34_4, f35_4, f36_4, f37_4, f38_4, f39_4, f40_4, f41_4, f42_4, f43_4, f44_4, f45_4, f46_4, f47_4, f48_4, f49_4, f50_4])
  have f26_5 := fun hh => getq q26_5 hh
  have q27_5 : At T5 14 (.bool OK) := by subst hT; exact (by first | (simp only [At, ↓Array.getElem?_setIfInBounds_ne, ne_eq, Nat.reduceEqDiff, not_false_eq_true, q27_4]; done) | simp [At, hs4, f9_4, f1001_4, f19_4, f20_4, f21_4, f22_4, f23_4, f24_4, f25_4, f26_4, f27_4, f28_4, f29_4, f30_4, f31_4, f32_4, f33_4, f34_4, f35_4, f36_4, f37_4, f38_4, f39_4, f40_4, f41_4, f42_4, f43_4, f44_4, f45_4, f46_4, f47_4, f48_4, f49_4, f50_4])
  have f27_5 := fun hh => getq q27_5 hh
  have q28_5 : At T5 15 (.int .i64 X) := by subst hT; exact (by first | (simp only [At, ↓Array.getElem?_setIfInBounds_ne, ne_eq, Nat.reduceEqDiff, not_false_eq_true, q28_4]; done) | simp [At, hs4, f9_4, f1001_4, f19_4, f20_4, f21_4, f22_4, f23_4, f24_4, f25_4, f26_4, f27_4, f28_4, f29_4, f30_4, f31_4, f32_4, f33_4, f34_4, f35_4, f36_4, f37_4, f38_4, f39_4, f40_4, f41_4, f42_4, f43_4, f44_4, f45_4, f46_4, f47_4, f48_4, f49_4, f50_4])
  have f28_5 := fun hh => getq q28_5 hh
  have q29_5 : At T5 16 (.int .i64 Y) := by subst hT; exact (by first | (simp only [At, ↓Array.getElem?_setIfInBounds_ne, ne_eq, Nat.reduceEqDiff, not_false_eq_true, q29_4]; done) | simp [At, hs4, f9_4, f1001_4, f19_4, f20_4, f21_4, f22_4, f23_4, f24_4, f25_4, f26_4, f27_4, f28_4, f29_4, f30_4, f31_4, f32_4, f33_4, f34_4, f35_4, f36_4, f37_4, f38_4, f39_4, f40_4, f41_4, f42_4, f43_4, f44_4, f45_4, f46_4, f47_4, f48_4, f49_4, f50_4])
  have f29_5 := fun hh => getq q29_5 hh
  have q30_5 : At T5 17 (.bool OK) := by subst hT; exact (by first | (simp only [At, ↓Array.getElem?_setIfInBounds_ne, ne_eq, Nat.reduceEqDiff, not_false_eq_true, q30_4]; done) | simp [At, hs4, f9_4, f1001_4, f19_4, f20_4, f21_4, f22_4, f23_4, f24_4, f25_4, f26_4, f27_4, f28_4, f29_4, f30_4, f31_4, f32_4, f33_4, f34_4, f35_4, f36_4, f37_4, f38_4, f39_4, f40_4, f41_4, f42_4, f43_4, f44_4, f45_4, f46_4, f47_4, f48_4, f49_4, f50_4])
  have f30_5 := fun hh => getq q30_5 hh
  have q31_5 : At T5 18 (.int .i64 G) := by subst hT; exact (by first | (simp only [At, ↓Array.getElem?_setIfInBounds_ne, ne_eq, Nat.reduceEqDiff, not_false_eq_true, q31_4]; done) | simp [At, hs4, f9_4, f1001_4, f19_4, f20_4, f21_4, f22_4, f23_4, f24_4, f25_4, f26_4, f27_4, f28_4, f29_4, f30_4, f31_4, f32_4, f33_4, f34_4, f35_4, f36_4, f37_4, f38_4, f39_4, f40_4, f41_4, f42_4, f43_4, f44_4, f45_4, f46_4, f47_4, f48_4, f49_4, f50_4])
  have f31_5 := fun hh => getq q31_5 hh
  have q32_5 : At T5 19 (.int .i64 H) := by subst hT; exact (by first | (simp only [At, ↓Array.getElem?_setIfInBounds_ne, ne_eq, Nat.reduceEqDiff, not_false_eq_true, q32_4]; done) | simp [At, hs4, f9_4, f1001_4, f19_4, f20_4, f21_4, f22_4, f23_4, f24_4, f25_4, f26_4, f27_4, f28_4, f29_4, f30_4, f31_4, f32_4, f33_4, f34_4, f35_4, f36_4, f37_4, f38_4, f39_4, f40_4, f41_4, f42_4, f43_4, f44_4, f45_4, f46_4, f47_4, f48_4, f49_4, f50_4])
  have f32_5 := fun hh => getq q32_5 hh
  have q33_5 : At T5 20 (.bool OK) := by subst hT; exact (by first | (simp only [At, ↓Array.getElem?_setIfInBounds_ne, ne_eq, Nat.reduceEqDiff, not_false_eq_true, q33_4]; done) | simp [At, hs4, f9_4, f1001_4, f19_4, f20_4, f21_4, f22_4, f23_4, f24_4, f25_4, f26_4, f27_4, f28_4, f29_4, f30_4, f31_4, f32_4, f33_4, f34_4, f35_4, f36_4, f37_4, f38_4, f39_4, f40_4, f41_4, f42_4, f43_4, f44_4, f45_4, f46_4, f47_4, f48_4, f49_4, f50_4])
  have f33_5 := fun hh => getq q33_5 hh
  have q34_5 : At T5 21 (.int .i64 G) := by subst hT; exact (by first | (simp only [At, ↓Array.getElem?_setIfInBounds_ne, ne_eq, Nat.reduceEqDiff, not_false_eq_true, q34_4]; done) | simp [At, hs4, f9_4, f1001_4, f19_4, f20_4, f21_4, f22_4, f23_4, f24_4, f25_4, f26_4, f27_4, f28_4, f29_4, f30_4, f31_4, f32_4, f33_4, f34_4, f35_4, f36_4, f37_4, f38_4, f39_4, f40_4, f41_4, f42_4, f43_4, f44_4, f45_4, f46_4, f47_4, f48_4, f49_4, f50_4])
  have f34_5 := fun hh => getq q34_5 hh
  have q35_5 : At T5 22 (.int .i64 H) := by subst hT; exact (by first | (simp only [At, ↓Array.getElem?_setIfInBounds_ne, ne_eq, Nat.reduceEqDiff, not_false_eq_true, q35_4]; done) | simp [At, hs4, f9_4, f1001_4, f19_4, f20_4, f21_4, f22_4, f23_4, f24_4, f25_4, f26_4, f27_4, f28_4, f29_4, f30_4, f31_4, f32_4, f33_4, f34_4, f35_4, f36_4, f37_4, f38_4, f39_4, f40_4, f41_4, f42_4, f43_4, f44_4, f45_4, f46_4, f47_4, f48_4, f49_4, f50_4])
  have f35_5 := fun hh => getq q35_5 hh
  have q36_5 : At T5 23 (.bool OK) := by subst hT; exact (by first | (simp only [At, ↓Array.getElem?_setIfInBounds_ne, ne_eq, Nat.reduceEqDiff, not_false_eq_true, q36_4]; done) | simp [At, hs4, f9_4, f1001_4, f19_4, f20_4, f21_4, f22_4, f23_4, f24_4, f25_4, f26_4, f27_4, f28_4, f29_4, f30_4, f31_4, f32_4, f33_4, f34_4, f35_4, f36_4, f37_4, f38_4, f39_4, f40_4, f41_4, f42_4, f43_4, f44_4, f45_4, f46_4, f47_4, f48_4, f49_4, f50_4])
  have f36_5 := fun hh => getq q36_5 hh
  have q37_5 : At T5 24 (.int .i64 U) := by subst hT; exact (by first | (simp only [At, ↓Array.getElem?_setIfInBounds_ne, ne_eq, Nat.reduceEqDiff, not_false_eq_true, q37_4]; done) | simp [At, hs4, f9_4, f1001_4, f19_4, f20_4, f21_4, f22_4, f23_4, f24_4, f25_4, f26_4, f27_4, f28_4, f29_4, f30_4, f31_4, f32_4, f33_4, f34_4, f35_4, f36_4, f37_4, f38_4, f39_4, f40_4, f41_4, f42_4, f43_4, f44_4, f45_4, f46_4, f47_4, f48_4, f49_4, f50_4])
  have f37_5 := fun hh => getq q37_5 hh
  have q38_5 : At T5 25 (.int .i64 V) := by subst hT; exact (by first | (simp only [At, ↓Array.getElem?_setIfInBounds_ne, ne_eq, Nat.reduceEqDiff, not_false_eq_true, q38_4]; done) | simp [At, hs4, f9_4, f1001_4, f19_4, f20_4, f21_4, f22_4, f23_4, f24_4, f25_4, f26_4, f27_4, f28_4, f29_4, f30_4, f31_4, f32_4, f33_4, f34_4, f35_4, f36_4, f37_4, f38_4, f39_4, f40_4, f41_4, f42_4, f43_4, f44_4, f45_4, f46_4, f47_4, f48_4, f49_4, f50_4])
  have f38_5 := fun hh => getq q38_5 hh
  have q39_5 : At T5 26 (.bool OK) := by subst hT; exact (by first | (simp only [At, ↓Array.getElem?_setIfInBounds_ne, ne_eq, Nat.reduceEqDiff, not_false_eq_true, q39_4]; done) | simp [At, hs4, f9_4, f1001_4, f19_4, f20_4, f21_4, f22_4, f23_4, f24_4, f25_4, f26_4, f27_4, f28_4, f29_4, f30_4, f31_4, f32_4, f33_4, f34_4, f35_4, f36_4, f37_4, f38_4, f39_4, f40_4, f41_4, f42_4, f43_4, f44_4, f45_4, f46_4, f47_4, f48_4, f49_4, f50_4])
  have f39_5 := fun hh => getq q39_5 hh
  have q40_5 : At T5 27 (.int .i64 U) := by subst hT; exact (by first | (simp only [At, ↓Array.getElem?_setIfInBounds_ne, ne_eq, Nat.reduceEqDiff, not_false_eq_true, q40_4]; done) | simp [At, hs4, f9_4, f1001_4, f19_4, f20_4, f21_4, f22_4, f23_4, f24_4, f25_4, f26_4, f27_4, f28_4, f29_4, f30_4, f31_4, f32_4, f33_4, f34_4, f35_4, f36_4, f37_4, f38_4, f39_4, f40_4, f41_4, f42_4, f43_4, f44_4, f45_4, f46_4, f47_4, f48_4, f49_4, f50_4])
  have f40_5 := fun hh => getq q40_5 hh
  have q41_5 : At T5 28 (.int .i64 V) := by subst hT; exact (by first | (simp only [At, ↓Array.getElem?_setIfInBounds_ne, ne_eq, Nat.reduceEqDiff, not_false_eq_true, q41_4]; done) | simp [At, hs4, f9_4, f1001_4, f19_4, f20_4, f21_4, f22_4, f23_4, f24_4, f25_4, f26_4, f27_4, f28_4, f29_4, f30_4, f31_4, f32_4, f33_4, f34_4, f35_4, f36_4, f37_4, f38_4, f39_4, f40_4, f41_4, f42_4, f43_4, f44_4, f45_4, f46_4, f47_4, f48_4, f49_4, f50_4])
  have f41_5 := fun hh => getq q41_5 hh
  have q42_5 : At T5 29 (.bool OK) := by subst hT; exact (by first | (simp only [At, ↓Array.getElem?_setIfInBounds_ne, ne_eq, Nat.reduceEqDiff, not_false_eq_true, q42_4]; done) | simp [At, hs4, f9_4, f1001_4, f19_4, f20_4, f21_4, f22_4, f23_4, f24_4, f25_4, f26_4, f27_4, f28_4, f29_4, f30_4, f31_4, f32_4, f33_4, f34_4, f35_4, f36_4, f37_4, f38_4, f39_4, f40_4, f41_4, f42_4, f43_4, f44_4, f45_4, f46_4, f47_4, f48_4, f49_4, f50_4])
  have f42_5 := fun hh => getq q42_5 hh
  have q43_5 : At T5 30 (.int .i64 K) := by subst hT; exact (by first | (simp only [At, ↓Array.getElem?_setIfInBounds_ne, ne_eq, Nat.reduceEqDiff, not_false_eq_true, q43_4]; done) | simp [At, hs4, f9_4, f1001_4, f19_4, f20_4, f21_4, f22_4, f23_4, f24_4, f25_4, f26_4, f27_4, f28_4, f29_4, f30_4, f31_4, f32_4, f33_4, f34_4, f35_4, f36_4, f37_4, f38_4, f39_4, f40_4, f41_4, f42_4, f43_4, f44_4, f45_4, f46_4, f47_4, f48_4, f49_4, f50_4])
  have f43_5 := fun hh => getq q43_5 hh
  have q44_5 : At T5 31 (.bool OK) := by subst hT; exact (by first | (simp only [At, ↓Array.getElem?_setIfInBounds_ne, ne_eq, Nat.reduceEqDiff, not_false_eq_true, q44_4]; done) | simp [At, hs4, f9_4, f1001_4, f19_4, f20_4, f21_4, f22_4, f23_4, f24_4, f25_4, f26_4, f27_4, f28_4, f29_4, f30_4, f31_4, f32_4, f33_4, f34_4, f35_4, f36_4, f37_4, f38_4, f39_4, f40_4, f41_4, f42_4, f43_4, f44_4, f45_4, f46_4, f47_4, f48_4, f49_4, f50_4])
  have f44_5 := fun hh => getq q44_5 hh
  have q45_5 : At T5 32 (.int .i64 K) := by subst hT; exact (by first | (simp only [At, ↓Array.getElem?_setIfInBounds_ne, ne_eq, Nat.reduceEqDiff, not_false_eq_true, q45_4]; done) | simp [At, hs4, f9_4, f1001_4, f19_4, f20_4, f21_4, f22_4, f23_4, f24_4, f25_4, f26_4, f27_4, f28_4, f29_4, f30_4, f31_4, f32_4, f33_4, f34_4, f35_4, f36_4, f37_4, f38_4, f39_4, f40_4, f41_4, f42_4, f43_4, f44_4, f45_4, f46_4, f47_4, f48_4, f49_4, f50_4])
  have f45_5 := fun hh => getq q45_5 hh
  have q46_5 : At T5 33 (.bool OK) := by subst hT; exact (by first | (simp only [At, ↓Array.getElem?_setIfInBounds_ne, ne_eq, Nat.reduceEqDiff, not_false_eq_true, q46_4]; done) | simp [At, hs4, f9_4, f1001_4, f19_4, f20_4, f21_4, f22_4, f23_4, f24_4, f25_4, f26_4, f27_4, f28_4, f29_4, f30_4, f31_4, f32_4, f33_4, f34_4, f35_4, f36_4, f37_4, f38_4, f39_4, f40_4, f41_4, f42_4, f43_4, f44_4, f45_4, f46_4, f47_4, f48_4, f49_4, f50_4])
  have f46_5 := fun hh => getq q46_5 hh
  have q47_5 : At T5 34 (.string tx) := by subst hT; exact (by first | (simp only [At, ↓Array.getElem?_setIfInBounds_ne, ne_eq, Nat.reduceEqDiff, not_false_eq_true, q47_4]; done) | simp [At, hs4, f9_4, f1001_4, f19_4, f20_4, f21_4, f22_4, f23_4, f24_4, f25_4, f26_4, f27_4, f28_4, f29_4, f30_4, f31_4, f32_4, f33_4, f34_4, f35_4, f36_4, f37_4, f38_4, f39_4, f40_4, f41_4, f42_4, f43_4, f44_4, f45_4, f46_4, f47_4, f48_4, f49_4, f50_4])
  have f47_5 := fun hh => getq q47_5 hh
  have q48_5 : At T5 35 (.bool OK) := by subst hT; exact (by first | (simp only [At, ↓Array.getElem?_setIfInBounds_ne, ne_eq, Nat.reduceEqDiff, not_false_eq_true, q48_4]; done) | simp [At, hs4, f9_4, f1001_4, f19_4, f20_4, f21_4, f22_4, f23_4, f24_4, f25_4, f26_4, f27_4, f28_4, f29_4, f30_4, f31_4, f32_4, f33_4, f34_4, f35_4, f36_4, f37_4, f38_4, f39_4, f40_4, f41_4, f42_4, f43_4, f44_4, f45_4, f46_4, f47_4, f48_4, f49_4, f50_4])
  have f48_5 := fun hh => getq q48_5 hh
  have q49_5 : At T5 36 (.string tx) := by subst hT; exact (by first | (simp only [At, ↓Array.getElem?_setIfInBounds_ne, ne_eq, Nat.reduceEqDiff, not_false_eq_true, q49_4]; done) | simp [At, hs4, f9_4, f1001_4, f19_4, f20_4, f21_4, f22_4, f23_4, f24_4, f25_4, f26_4, f27_4, f28_4, f29_4, f30_4, f31_4, f32_4, f33_4, f34_4, f35_4, f36_4, f37_4, f38_4, f39_4, f40_4, f41_4, f42_4, f43_4, f44_4, f45_4, f46_4, f47_4, f48_4, f49_4, f50_4])
  have f49_5 := fun hh => getq q49_5 hh
  have q50_5 : At T5 37 (.bool OK) := by subst hT; exact (by first | (simp only [At, ↓Array.getElem?_setIfInBounds_ne, ne_eq, Nat.reduceEqDiff, not_false_eq_true, q50_4]; done) | simp [At, hs4, f9_4, f1001_4, f19_4, f20_4, f21_4, f22_4, f23_4, f24_4, f25_4, f26_4, f27_4, f28_4, f29_4, f30_4, f31_4, f32_4, f33_4, f34_4, f35_4, f36_4, f37_4, f38_4, f39_4, f40_4, f41_4, f42_4, f43_4, f44_4, f45_4, f46_4, f47_4, f48_4, f49_4, f50_4])
  have f50_5 := fun hh => getq q50_5 hh
  have q51_5 : At T5 38 (.pointer (some ⟨w113.heap.size, 0, none⟩)) := by subst hT; exact (by first | (simp only [At, ↓Array.getElem?_setIfInBounds_ne, ne_eq, Nat.reduceEqDiff, not_false_eq_true]; done) | simp [At, hs4, f9_4, f1001_4, f19_4, f20_4, f21_4, f22_4, f23_4, f24_4, f25_4, f26_4, f27_4, f28_4, f29_4, f30_4, f31_4, f32_4, f33_4, f34_4, f35_4, f36_4, f37_4, f38_4, f39_4, f40_4, f41_4, f42_4, f43_4, f44_4, f45_4, f46_4, f47_4, f48_4, f49_4, f50_4])
  have f51_5 := fun hh => getq q51_5 hh
  have q52_5 : At T5 39 (.bool OK) := by subst hT; exact (by first | (simp only [At, ↓Array.getElem?_setIfInBounds_ne, ne_eq, Nat.reduceEqDiff, not_false_eq_true]; done) | simp [At, hs4, f9_4, f1001_4, f19_4, f20_4, f21_4, f22_4, f23_4, f24_4, f25_4, f26_4, f27_4, f28_4, f29_4, f30_4, f31_4, f32_4, f33_4, f34_4, f35_4, f36_4, f37_4, f38_4, f39_4, f40_4, f41_4, f42_4, f43_4, f44_4, f45_4, f46_4, f47_4, f48_4, f49_4, f50_4])
  have f52_5 := fun hh => getq q52_5 hh
  have q53_5 : At T5 40 (.pointer (some ⟨w114.heap.size, 0, none⟩)) := by subst hT; exact (by first | (simp only [At, ↓Array.getElem?_setIfInBounds_ne, ne_eq, Nat.reduceEqDiff, not_false_eq_true]; done) | simp [At, hs4, f9_4, f1001_4, f19_4, f20_4, f21_4, f22_4, f23_4, f24_4, f25_4, f26_4, f27_4, f28_4, f29_4, f30_4, f31_4, f32_4, f33_4, f34_4, f35_4, f36_4, f37_4, f38_4, f39_4, f40_4, f41_4, f42_4, f43_4, f44_4, f45_4, f46_4, f47_4, f48_4, f49_4, f50_4])
  have f53_5 := fun hh => getq q53_5 hh
  have q54_5 : At T5 41 (.bool OK) := by subst hT; exact (by first | (simp only [At, ↓Array.getElem?_setIfInBounds_ne, ne_eq, Nat.reduceEqDiff, not_false_eq_true]; done) | simp [At, hs4, f9_4, f1001_4, f19_4, f20_4, f21_4, f22_4, f23_4, f24_4, f25_4, f26_4, f27_4, f28_4, f29_4, f30_4, f31_4, f32_4, f33_4, f34_4, f35_4, f36_4, f37_4, f38_4, f39_4, f40_4, f41_4, f42_4, f43_4, f44_4, f45_4, f46_4, f47_4, f48_4, f49_4, f50_4])
  have f54_5 := fun hh => getq q54_5 hh
  clear hT f50_4 f49_4 f48_4 f47_4 f46_4 f45_4 f44_4 f43_4 f42_4 f41_4 f40_4 f39_4 f38_4 f37_4 f36_4 f35_4 f34_4 f33_4 f32_4 f31_4 f30_4 f29_4 f28_4 f27_4 f26_4 f25_4 f24_4 f23_4 f22_4 f21_4 f20_4 f19_4 f1001_4 f9_4 hs4 q9_4 q1001_4 q19_4 q20_4 q21_4 q22_4 q23_4 q24_4 q25_4 q26_4 q27_4 q28_4 q29_4 q30_4 q31_4 q32_4 q33_4 q34_4 q35_4 q36_4 q37_4 q38_4 q39_4 q40_4 q41_4 q42_4 q43_4 q44_4 q45_4 q46_4 q47_4 q48_4 q49_4 q50_4
  refine with_world (C := fun W => Lay w [(w114.heap.size, m1, m2, m3), (w113.heap.size, m1, m2, m3), (g, a, b, c)] W) (Lay.c (g := w114.heap.size) (x0 := m1) (x1 := m2) (x2 := m3) (by simp [go_sem]) (by simp [go_sem]) (by simp [go_sem]) (by first | (simp; done) | (simp; omega)) (Lay.after (HFw114.out) (by repeat (first | exact Below.refl _ _ | refine bl_alloc ?_ _ | refine bl_drewN ?_ _ | refine bl_set ?_ (by first | omega | (simp; done) | (simp; omega)) _)))) ?_
  intro w115 hL_
  have HFw115 := Lib.hid hL_
  clear hL_ c00 c01 c02 z0 c10 c11 c12 z1
  obtain ⟨c00, c01, c02, z0, c10, c11, c12, z1, c20, c21, c22, z2, hbl⟩ := Lay.op (HFw115.out)
  clear hbl
  clear HA2 HB1 HB2 HC1 HC2 HD1 HD2 HE1 HE2 HT1 HT2 HM1 HM2
  clear HA1
  refine wp_cut (fun a' wx => ∃ T : Array Value, a' = ⟨T, []⟩ ∧ T.size = 719 ∧ At T 5 (.pointer (some ⟨g, 0, none⟩)) ∧ At T 1 (VY1) ∧ At T 6 (.int .i64 N) ∧ At T 7 (.int .i64 D) ∧ At T 8 (.bool OK) ∧ At T 12 (.int .i64 X) ∧ At T 13 (.int .i64 Y) ∧ At T 18 (.int .i64 G) ∧ At T 19 (.int .i64 H) ∧ At T 24 (.int .i64 U) ∧ At T 25 (.int .i64 V) ∧ At T 30 (.int .i64 K) ∧ At T 34 (.string tx) ∧ At T 38 (.pointer (some ⟨w113.heap.size, 0, none⟩)) ∧ At T 308 (.bool false) ∧ Lay w [(w114.heap.size, m1, m2, m3), (w113.heap.size, m1, m2, m3), (g, a, b, c)] wx) ?rest ?first
  case first =>
    intro J K' hJ hK
    exact reg15 _ _ _ _ _ _ _ _ _ _ _ _ _ _ _ _ _ _ _ _ _ _ _ _ _ hs5 q9_5 q1001_5 q19_5 q20_5 q21_5 q22_5 q23_5 q24_5 q25_5 q26_5 q27_5 q28_5 q29_5 q30_5 q31_5 q32_5 q33_5 q34_5 q35_5 q36_5 q37_5 q38_5 q39_5 q40_5 q41_5 q42_5 q43_5 q44_5 q45_5 q46_5 q47_5 q48_5 q49_5 q50_5 q51_5 q52_5 q53_5 q54_5 (HFw115.out) HL1 HL2 _ _ _ hJ hK
  case rest =>
    intro a' wc1 hR1
    obtain ⟨T6, rfl, hs6, q9_6, q1001_6, q19_6, q20_6, q21_6, q25_6, q26_6, q31_6, q32_6, q37_6, q38_6, q43_6, q47_6, q51_6, q308_6, hL_⟩ := hR1
    have f9_6 := fun hh => getq q9_6 hh
    have f1001_6 := fun hh => getq q1001_6 hh
    have f19_6 := fun hh => getq q19_6 hh
    have f20_6 := fun hh => getq q20_6 hh
    have f21_6 := fun hh => getq q21_6 hh
    have f25_6 := fun hh => getq q25_6 hh
    have f26_6 := fun hh => getq q26_6 hh
    have f31_6 := fun hh => getq q31_6 hh
    have f32_6 := fun hh => getq q32_6 hh
    have f37_6 := fun hh => getq q37_6 hh
    have f38_6 := fun hh => getq q38_6 hh
    have f43_6 := fun hh => getq q43_6 hh
    have f47_6 := fun hh => getq q47_6 hh
    have f51_6 := fun hh => getq q51_6 hh
    have f308_6 := fun hh => getq q308_6 hh
    have HFwc1 := Lib.hid hL_
    clear hL_
    obtain ⟨c00, c01, c02, z0, c10, c11, c12, z1, c20, c21, c22, z2, hbl⟩ := Lay.op (HFwc1.out)
    clear hbl
    clear HL1 HL2
    go_wp2_with fail
    refine wp_cond_f ?_ ?_
    · go_simp
    go_upto_region 20 with fail
    refine reframe fun T7 hT => ?_
    have hs7 : T7.size = 719 := by subst hT; simp [hs6]
    have q9_7 : At T7 5 (.pointer (some ⟨g, 0, none⟩)) := by subst hT; exact (by first | (simp only [At, ↓Array.getElem?_setIfInBounds_ne, ne_eq, Nat.reduceEqDiff, not_false_eq_true, q9_6]; done) | simp [At, hs6, f9_6, f1001_6, f19_6, f20_6, f21_6, f25_6, f26_6, f31_6, f32_6, f37_6, f38_6, f43_6, f47_6, f51_6, f308_6])
    have f9_7 := fun hh => getq q9_7 hh
    have q1001_7 : At T7 1 (VY1) := by subst hT; exact (by first | (simp only [At, ↓Array.getElem?_setIfInBounds_ne, ne_eq, Nat.reduceEqDiff, not_false_eq_true, q1001_6]; done) | simp [At, hs6, f9_6, f1001_6, f19_6, f20_6, f21_6, f25_6, f26_6, f31_6, f32_6, f37_6, f38_6, f43_6, f47_6, f51_6, f308_6])
    have f1001_7 := fun hh => getq q1001_7 hh
    have q19_7 : At T7 6 (.int .i64 N) := by subst hT; exact (by first | (simp only [At, ↓Array.getElem?_setIfInBounds_ne, ne_eq, Nat.reduceEqDiff, not_false_eq_true, q19_6]; done) | simp [At, hs6, f9_6, f1001_6, f19_6, f20_6, f21_6, f25_6, f26_6, f31_6, f32_6, f37_6, f38_6, f43_6, f47_6, f51_6, f308_6])
    have f19_7 := fun hh => getq q19_7 hh
    have q20_7 : At T7 7 (.int .i64 D) := by subst hT; exact (by first | (simp only [At, ↓Array.getElem?_setIfInBounds_ne, ne_eq, Nat.reduceEqDiff, not_false_eq_true, q20_6]; done) | simp [At, hs6, f9_6, f1001_6, f19_6, f20_6, f21_6, f25_6, f26_6, f31_6, f32_6, f37_6, f38_6, f43_6, f47_6, f51_6, f308_6])
    have f20_7 := fun hh => getq q20_7 hh
    have q21_7 : At T7 8 (.bool OK) := by subst hT; exact (by first | (simp only [At, ↓Array.getElem?_setIfInBounds_ne, ne_eq, Nat.reduceEqDiff, not_false_eq_true, q21_6]; done) | simp [At, hs6, f9_6, f1001_6, f19_6, f20_6, f21_6, f25_6, f26_6, f31_6, f32_6, f37_6, f38_6, f43_6, f47_6, f51_6, f308_6])
    have f21_7 := fun hh => getq q21_7 hh
    have q25_7 : At T7 12 (.int .i64 X) := by subst hT; exact (by first | (simp only [At, ↓Array.getElem?_setIfInBounds_ne, ne_eq, Nat.reduceEqDiff, not_false_eq_true, q25_6]; done) | simp [At, hs6, f9_6, f1001_6, f19_6, f20_6, f21_6, f25_6, f26_6, f31_6, f32_6, f37_6, f38_6, f43_6, f47_6, f51_6, f308_6])
    have f25_7 := fun hh => getq q25_7 hh
    have q26_7 : At T7 13 (.int .i64 Y) := by subst hT; exact (by first | (simp only [At, ↓Array.getElem?_setIfInBounds_ne, ne_eq, Nat.reduceEqDiff, not_false_eq_true, q26_6]; done) | simp [At, hs6, f9_6, f1001_6, f19_6, f20_6, f21_6, f25_6, f26_6, f31_6, f32_6, f37_6, f38_6, f43_6, f47_6, f51_6, f308_6])
    have f26_7 := fun hh => getq q26_7 hh
    have q31_7 : At T7 18 (.int .i64 G) := by subst hT; exact (by first | (simp only [At, ↓Array.getElem?_setIfInBounds_ne, ne_eq, Nat.reduceEqDiff, not_false_eq_true, q31_6]; done) | simp [At, hs6, f9_6, f1001_6, f19_6, f20_6, f21_6, f25_6, f26_6, f31_6, f32_6, f37_6, f38_6, f43_6, f47_6, f51_6, f308_6])
    have f31_7 := fun hh => getq q31_7 hh
    have q32_7 : At T7 19 (.int .i64 H) := by subst hT; exact (by first | (simp only [At, ↓Array.getElem?_setIfInBounds_ne, ne_eq, Nat.reduceEqDiff, not_false_eq_true, q32_6]; done) | simp [At, hs6, f9_6, f1001_6, f19_6, f20_6, f21_6, f25_6, f26_6, f31_6, f32_6, f37_6, f38_6, f43_6, f47_6, f51_6, f308_6])
    have f32_7 := fun hh => getq q32_7 hh
    have q37_7 : At T7 24 (.int .i64 U) := by subst hT; exact (by first | (simp only [At, ↓Array.getElem?_setIfInBounds_ne, ne_eq, Nat.reduceEqDiff, not_false_eq_true, q37_6]; done) | simp [At, hs6, f9_6, f1001_6, f19_6, f20_6, f21_6, f25_6, f26_6, f31_6, f32_6, f37_6, f38_6, f43_6, f47_6, f51_6, f308_6])
    have f37_7 := fun hh => getq q37_7 hh
    have q38_7 : At T7 25 (.int .i64 V) := by subst hT; exact (by first | (simp only [At, ↓Array.getElem?_setIfInBounds_ne, ne_eq, Nat.reduceEqDiff, not_false_eq_true, q38_6]; done) | simp [At, hs6, f9_6, f1001_6, f19_6, f20_6, f21_6, f25_6, f26_6, f31_6, f32_6, f37_6, f38_6, f43_6, f47_6, f51_6, f308_6])
    have f38_7 := fun hh => getq q38_7 hh
    have q43_7 : At T7 30 (.int .i64 K) := by subst hT; exact (by first | (simp only [At, ↓Array.getElem?_setIfInBounds_ne, ne_eq, Nat.reduceEqDiff, not_false_eq_true, q43_6]; done) | simp [At, hs6, f9_6, f1001_6, f19_6, f20_6, f21_6, f25_6, f26_6, f31_6, f32_6, f37_6, f38_6, f43_6, f47_6, f51_6, f308_6])
    have f43_7 := fun hh => getq q43_7 hh
    have q47_7 : At T7 34 (.string tx) := by subst hT; exact (by first | (simp only [At, ↓Array.getElem?_setIfInBounds_ne, ne_eq, Nat.reduceEqDiff, not_false_eq_true, q47_6]; done) | simp [At, hs6, f9_6, f1001_6, f19_6, f20_6, f21_6, f25_6, f26_6, f31_6, f32_6, f37_6, f38_6, f43_6, f47_6, f51_6, f308_6])
    have f47_7 := fun hh => getq q47_7 hh
    have q51_7 : At T7 38 (.pointer (some ⟨w113.heap.size, 0, none⟩)) := by subst hT; exact (by first | (simp only [At, ↓Array.getElem?_setIfInBounds_ne, ne_eq, Nat.reduceEqDiff, not_false_eq_true, q51_6]; done) | simp [At, hs6, f9_6, f1001_6, f19_6, f20_6, f21_6, f25_6, f26_6, f31_6, f32_6, f37_6, f38_6, f43_6, f47_6, f51_6, f308_6])
    have f51_7 := fun hh => getq q51_7 hh
    have q308_7 : At T7 308 (.bool false) := by subst hT; exact (by first | (simp only [At, ↓Array.getElem?_setIfInBounds_ne, ne_eq, Nat.reduceEqDiff, not_false_eq_true, q308_6]; done) | simp [At, hs6, f9_6, f1001_6, f19_6, f20_6, f21_6, f25_6, f26_6, f31_6, f32_6, f37_6, f38_6, f43_6, f47_6, f51_6, f308_6])
    have f308_7 := fun hh => getq q308_7 hh
    clear hT f308_6 f51_6 f47_6 f43_6 f38_6 f37_6 f32_6 f31_6 f26_6 f25_6 f21_6 f20_6 f19_6 f1001_6 f9_6 hs6 q9_6 q1001_6 q19_6 q20_6 q21_6 q25_6 q26_6 q31_6 q32_6 q37_6 q38_6 q43_6 q47_6 q51_6 q308_6
    go_wp2_with fail
    refine wp_cut (fun a' wx => ∃ T : Array Value, a' = ⟨T, []⟩ ∧ T.size = 719 ∧ At T 1 (VY1) ∧ Lay w [] wx) ?rest2 ?first2
    case first2 =>
      intro J K' hJ hK
      cases OK
      · go_wp2_with fail
        refine wp_cond_f ?_ ?_
        · go_simp
        go_wp2_with fail
        refine Met.intro (hJ _ _ ⟨_, rfl, by simp [hs7], by first | (simp only [At, ↓Array.getElem?_setIfInBounds_ne, ne_eq, Nat.reduceEqDiff, not_false_eq_true, q1001_7]; done) | simp [At, hs7, f9_7, f1001_7, f19_7, f20_7, f21_7, f25_7, f26_7, f31_7, f32_7, f37_7, f38_7, f43_7, f47_7, f51_7, f308_7], Lay.tl (Lay.tl (Lay.tl (HFwc1.out)))⟩)
      · obtain ⟨⟨rfl, rfl, rfl⟩, HX1, HX2, HX3, HI1, HI2, HJ1, HJ2, eM, eG, eK, eU, HO, ⟨⟨a1, a2⟩, ⟨b1, b2⟩, c1, c2⟩, ⟨N1, N2⟩, ⟨D1, D2⟩, ⟨X1_, X2_⟩, ⟨Y1_, Y2_⟩, ⟨M1, M2⟩, ⟨G1_, G2_⟩, ⟨H1_, H2_⟩, ⟨U1_, U2_⟩, V1_, V2_⟩ := FA.out rfl
        clear FA
        have EM := Lib.hid eM
        have EG := Lib.hid eG
        have EU := Lib.hid eU
        subst eK
        clear eM eG eU
        have w0_ : IntKind.i64.wrap (b + c) = b + c := IntWalk.i64_in _ ⟨by omega, by omega⟩
        go_wp2_with fail
        refine wp_cond_t ?_ ?_
        · go_simp
        go_wp2_with fail
        refine ((HX1 _).out).mono ?_
        rintro e w116 ⟨rfl, hb_⟩
        have HFw116 := Lib.hid (Lay.after (w := w) (B := [(w114.heap.size, a, c, b), (w113.heap.size, a, c, b), (g, a, b, c)]) (Lay.after (HFwc1.out) (by repeat (first | exact Below.refl _ _ | refine bl_alloc ?_ _ | refine bl_drewN ?_ _ | refine bl_set ?_ (by first | omega | (simp; done) | (simp; omega)) _))) hb_)
        clear hb_ c00 c01 c02 z0 c10 c11 c12 z1 c20 c21 c22 z2
        obtain ⟨c00, c01, c02, z0, c10, c11, c12, z1, c20, c21, c22, z2, hbl⟩ := Lay.op (HFw116.out)
        clear hbl
        go_wp2_with fail
        refine ((HX2 _).out).mono ?_
        rintro e w117 ⟨rfl, hb_⟩
        have HFw117 := Lib.hid (Lay.after (w := w) (B := [(w114.heap.size, a, c, b), (w113.heap.size, a, c, b), (g, a, b, c)]) (Lay.after (HFw116.out) (by repeat (first | exact Below.refl _ _ | refine bl_alloc ?_ _ | refine bl_drewN ?_ _ | refine bl_set ?_ (by first | omega | (simp; done) | (simp; omega)) _))) hb_)
        clear hb_ c00 c01 c02 z0 c10 c11 c12 z1 c20 c21 c22 z2
        obtain ⟨c00, c01, c02, z0, c10, c11, c12, z1, c20, c21, c22, z2, hbl⟩ := Lay.op (HFw117.out)
        clear hbl
        go_wp2_with fail
        refine ((HX3 _ (HTA.out.below (Lay.bl (HFw117.out))) (HER.out.below (Lay.bl (HFw117.out))) (HMX.out.below (Lay.bl (HFw117.out)))).out).mono ?_
        rintro e w118 ⟨rfl, hb_⟩
        have HFw118 := Lib.hid (Lay.after (w := w) (B := [(w114.heap.size, a, c, b), (w113.heap.size, a, c, b), (g, a, b, c)]) (Lay.after (HFw117.out) (by repeat (first | exact Below.refl _ _ | refine bl_alloc ?_ _ | refine bl_drewN ?_ _ | refine bl_set ?_ (by first | omega | (simp; done) | (simp; omega)) _))) hb_)
        clear hb_ c00 c01 c02 z0 c10 c11 c12 z1 c20 c21 c22 z2
        obtain ⟨c00, c01, c02, z0, c10, c11, c12, z1, c20, c21, c22, z2, hbl⟩ := Lay.op (HFw118.out)
        clear hbl
        go_upto_region 25 with fail
        refine reframe fun T8 hT => ?_
        have hs8 : T8.size = 719 := by subst hT; simp [hs7]
        have q9_8 : At T8 5 (.pointer (some ⟨g, 0, none⟩)) := by subst hT; exact (by first | (simp only [At, ↓Array.getElem?_setIfInBounds_ne, ne_eq, Nat.reduceEqDiff, not_false_eq_true, q9_7]; done) | simp [At, hs7, f9_7, f1001_7, f19_7, f20_7, f21_7, f25_7, f26_7, f31_7, f32_7, f37_7, f38_7, f43_7, f47_7, f51_7, f308_7, w0_])
        have f9_8 := fun hh => getq q9_8 hh
        have q1001_8 : At T8 1 (VY1) := by subst hT; exact (by first | (simp only [At, ↓Array.getElem?_setIfInBounds_ne, ne_eq, Nat.reduceEqDiff, not_false_eq_true, q1001_7]; done) | simp [At, hs7, f9_7, f1001_7, f19_7, f20_7, f21_7, f25_7, f26_7, f31_7, f32_7, f37_7, f38_7, f43_7, f47_7, f51_7, f308_7, w0_])
        have f1001_8 := fun hh => getq q1001_8 hh
        have q19_8 : At T8 6 (.int .i64 N) := by subst hT; exact (by first | (simp only [At, ↓Array.getElem?_setIfInBounds_ne, ne_eq, Nat.reduceEqDiff, not_false_eq_true, q19_7]; done) | simp [At, hs7, f9_7, f1001_7, f19_7, f20_7, f21_7, f25_7, f26_7, f31_7, f32_7, f37_7, f38_7, f43_7, f47_7, f51_7, f308_7, w0_])
        have f19_8 := fun hh => getq q19_8 hh
        have q20_8 : At T8 7 (.int .i64 D) := by subst hT; exact (by first | (simp only [At, ↓Array.getElem?_setIfInBounds_ne, ne_eq, Nat.reduceEqDiff, not_false_eq_true, q20_7]; done) | simp [At, hs7, f9_7, f1001_7, f19_7, f20_7, f21_7, f25_7, f26_7, f31_7, f32_7, f37_7, f38_7, f43_7, f47_7, f51_7, f308_7, w0_])
        have f20_8 := fun hh => getq q20_8 hh
        have q25_8 : At T8 12 (.int .i64 X) := by subst hT; exact (by first | (simp only [At, ↓Array.getElem?_setIfInBounds_ne, ne_eq, Nat.reduceEqDiff, not_false_eq_true, q25_7]; done) | simp [At, hs7, f9_7, f1001_7, f19_7, f20_7, f21_7, f25_7, f26_7, f31_7, f32_7, f37_7, f38_7, f43_7, f47_7, f51_7, f308_7, w0_])
        have f25_8 := fun hh => getq q25_8 hh
        have q26_8 : At T8 13 (.int .i64 Y) := by subst hT; exact (by first | (simp only [At, ↓Array.getElem?_setIfInBounds_ne, ne_eq, Nat.reduceEqDiff, not_false_eq_true, q26_7]; done) | simp [At, hs7, f9_7, f1001_7, f19_7, f20_7, f21_7, f25_7, f26_7, f31_7, f32_7, f37_7, f38_7, f43_7, f47_7, f51_7, f308_7, w0_])
        have f26_8 := fun hh => getq q26_8 hh
        have q31_8 : At T8 18 (.int .i64 G) := by subst hT; exact (by first | (simp only [At, ↓Array.getElem?_setIfInBounds_ne, ne_eq, Nat.reduceEqDiff, not_false_eq_true, q31_7]; done) | simp [At, hs7, f9_7, f1001_7, f19_7, f20_7, f21_7, f25_7, f26_7, f31_7, f32_7, f37_7, f38_7, f43_7, f47_7, f51_7, f308_7, w0_])
        have f31_8 := fun hh => getq q31_8 hh
        have q32_8 : At T8 19 (.int .i64 H) := by subst hT; exact (by first | (simp only [At, ↓Array.getElem?_setIfInBounds_ne, ne_eq, Nat.reduceEqDiff, not_false_eq_true, q32_7]; done) | simp [At, hs7, f9_7, f1001_7, f19_7, f20_7, f21_7, f25_7, f26_7, f31_7, f32_7, f37_7, f38_7, f43_7, f47_7, f51_7, f308_7, w0_])
        have f32_8 := fun hh => getq q32_8 hh
        have q37_8 : At T8 24 (.int .i64 U) := by subst hT; exact (by first | (simp only [At, ↓Array.getElem?_setIfInBounds_ne, ne_eq, Nat.reduceEqDiff, not_false_eq_true, q37_7]; done) | simp [At, hs7, f9_7, f1001_7, f19_7, f20_7, f21_7, f25_7, f26_7, f31_7, f32_7, f37_7, f38_7, f43_7, f47_7, f51_7, f308_7, w0_])
        have f37_8 := fun hh => getq q37_8 hh
        have q38_8 : At T8 25 (.int .i64 V) := by subst hT; exact (by first | (simp only [At, ↓Array.getElem?_setIfInBounds_ne, ne_eq, Nat.reduceEqDiff, not_false_eq_true, q38_7]; done) | simp [At, hs7, f9_7, f1001_7, f19_7, f20_7, f21_7, f25_7, f26_7, f31_7, f32_7, f37_7, f38_7, f43_7, f47_7, f51_7, f308_7, w0_])
        have f38_8 := fun hh => getq q38_8 hh
        have q43_8 : At T8 30 (.int .i64 (N.tdiv D)) := by subst hT; exact (by first | (simp only [At, ↓Array.getElem?_setIfInBounds_ne, ne_eq, Nat.reduceEqDiff, not_false_eq_true, q43_7]; done) | simp [At, hs7, f9_7, f1001_7, f19_7, f20_7, f21_7, f25_7, f26_7, f31_7, f32_7, f37_7, f38_7, f43_7, f47_7, f51_7, f308_7, w0_])
        have f43_8 := fun hh => getq q43_8 hh
        have q55_8 : At T8 42 (.int .i64 (b + c)) := by subst hT; exact (by first | (simp only [At, ↓Array.getElem?_setIfInBounds_ne, ne_eq, Nat.reduceEqDiff, not_false_eq_true]; done) | simp [At, hs7, f9_7, f1001_7, f19_7, f20_7, f21_7, f25_7, f26_7, f31_7, f32_7, f37_7, f38_7, f43_7, f47_7, f51_7, f308_7, w0_])
        have f55_8 := fun hh => getq q55_8 hh
        have q56_8 : At T8 43 (.int .i64 N) := by subst hT; exact (by first | (simp only [At, ↓Array.getElem?_setIfInBounds_ne, ne_eq, Nat.reduceEqDiff, not_false_eq_true]; done) | simp [At, hs7, f9_7, f1001_7, f19_7, f20_7, f21_7, f25_7, f26_7, f31_7, f32_7, f37_7, f38_7, f43_7, f47_7, f51_7, f308_7, w0_])
        have f56_8 := fun hh => getq q56_8 hh
        have q57_8 : At T8 44 (.int .i64 D) := by subst hT; exact (by first | (simp only [At, ↓Array.getElem?_setIfInBounds_ne, ne_eq, Nat.reduceEqDiff, not_false_eq_true]; done) | simp [At, hs7, f9_7, f1001_7, f19_7, f20_7, f21_7, f25_7, f26_7, f31_7, f32_7, f37_7, f38_7, f43_7, f47_7, f51_7, f308_7, w0_])
        have f57_8 := fun hh => getq q57_8 hh
        have q58_8 : At T8 45 (.bool true) := by subst hT; exact (by first | (simp only [At, ↓Array.getElem?_setIfInBounds_ne, ne_eq, Nat.reduceEqDiff, not_false_eq_true]; done) | simp [At, hs7, f9_7, f1001_7, f19_7, f20_7, f21_7, f25_7, f26_7, f31_7, f32_7, f37_7, f38_7, f43_7, f47_7, f51_7, f308_7, w0_])
        have f58_8 := fun hh => getq q58_8 hh
        have q59_8 : At T8 46 (.int .i64 M) := by subst hT; exact (by first | (simp only [At, ↓Array.getElem?_setIfInBounds_ne, ne_eq, Nat.reduceEqDiff, not_false_eq_true]; done) | simp [At, hs7, f9_7, f1001_7, f19_7, f20_7, f21_7, f25_7, f26_7, f31_7, f32_7, f37_7, f38_7, f43_7, f47_7, f51_7, f308_7, w0_])
        have f59_8 := fun hh => getq q59_8 hh
        have q60_8 : At T8 47 (.int .i64 Y) := by subst hT; exact (by first | (simp only [At, ↓Array.getElem?_setIfInBounds_ne, ne_eq, Nat.reduceEqDiff, not_false_eq_true]; done) | simp [At, hs7, f9_7, f1001_7, f19_7, f20_7, f21_7, f25_7, f26_7, f31_7, f32_7, f37_7, f38_7, f43_7, f47_7, f51_7, f308_7, w0_])
        have f60_8 := fun hh => getq q60_8 hh
        have q61_8 : At T8 48 (.bool true) := by subst hT; exact (by first | (simp only [At, ↓Array.getElem?_setIfInBounds_ne, ne_eq, Nat.reduceEqDiff, not_false_eq_true]; done) | simp [At, hs7, f9_7, f1001_7, f19_7, f20_7, f21_7, f25_7, f26_7, f31_7, f32_7, f37_7, f38_7, f43_7, f47_7, f51_7, f308_7, w0_])
        have f61_8 := fun hh => getq q61_8 hh
        have q62_8 : At T8 49 (.pointer (some ⟨w118.heap.size, 0, none⟩)) := by subst hT; exact (by first | (simp only [At, ↓Array.getElem?_setIfInBounds_ne, ne_eq, Nat.reduceEqDiff, not_false_eq_true]; done) | simp [At, hs7, f9_7, f1001_7, f19_7, f20_7, f21_7, f25_7, f26_7, f31_7, f32_7, f37_7, f38_7, f43_7, f47_7, f51_7, f308_7, w0_])
        have f62_8 := fun hh => getq q62_8 hh
        have q63_8 : At T8 50 (.bool true) := by subst hT; exact (by first | (simp only [At, ↓Array.getElem?_setIfInBounds_ne, ne_eq, Nat.reduceEqDiff, not_false_eq_true]; done) | simp [At, hs7, f9_7, f1001_7, f19_7, f20_7, f21_7, f25_7, f26_7, f31_7, f32_7, f37_7, f38_7, f43_7, f47_7, f51_7, f308_7, w0_])
        have f63_8 := fun hh => getq q63_8 hh
        clear hT f308_7 f51_7 f47_7 f43_7 f38_7 f37_7 f32_7 f31_7 f26_7 f25_7 f21_7 f20_7 f19_7 f1001_7 f9_7 hs7 q9_7 q1001_7 q19_7 q20_7 q21_7 q25_7 q26_7 q31_7 q32_7 q37_7 q38_7 q43_7 q47_7 q51_7 q308_7
        refine with_world (C := fun W => Lay w [(w118.heap.size, a, b, c), (w114.heap.size, a, c, b), (w113.heap.size, a, c, b), (g, a, b, c)] W) (Lay.c (g := w118.heap.size) (x0 := a) (x1 := b) (x2 := c) (by simp [go_sem]) (by simp [go_sem]) (by simp [go_sem]) (by first | (simp; done) | (simp; omega)) (Lay.after (HFw118.out) (by repeat (first | exact Below.refl _ _ | refine bl_alloc ?_ _ | refine bl_drewN ?_ _ | refine bl_set ?_ (by first | omega | (simp; done) | (simp; omega)) _)))) ?_
        intro w119 hL_
        have HFw119 := Lib.hid hL_
        clear hL_ c00 c01 c02 z0 c10 c11 c12 z1 c20 c21 c22 z2
        obtain ⟨c00, c01, c02, z0, c10, c11, c12, z1, c20, c21, c22, z2, c30, c31, c32, z3, hbl⟩ := Lay.op (HFw119.out)
        clear hbl
        obtain ⟨e1, e1'⟩ := mul_bdx (a := b) (b := c) (m := 1000) (k := 1000) (by omega) (by omega) (by omega) (by omega)
        obtain ⟨e2, e2'⟩ := mul_bdx (a := a) (b := b) (m := 1000) (k := 1000) (by omega) (by omega) (by omega) (by omega)
        obtain ⟨e3, e3'⟩ := mul_bdx (a := G * 2) (b := D) (m := 2000000000) (k := 2000) (by omega) (by omega) (by omega) (by omega)
        obtain ⟨e4, e4'⟩ := mul_bdx (a := H) (b := a) (m := 4000) (k := 1000) (by omega) (by omega) (by omega) (by omega)
        obtain ⟨e6, e6'⟩ := mul_bdx (a := a) (b := Y) (m := 1000) (k := 2000) (by omega) (by omega) (by omega) (by omega)
        have t1 : 0 ≤ N.tdiv D := Int.tdiv_nonneg (by omega) (by omega)
        have t2 : N.tdiv D ≤ N := Int.tdiv_le_self _ (by omega)
        have hD0 : ¬ D = 0 := by omega
        have w1_ : IntKind.i64.wrap (b * c) = b * c := IntWalk.i64_in _ ⟨by omega, by omega⟩
        have w2_ : IntKind.i64.wrap (a * b) = a * b := IntWalk.i64_in _ ⟨by omega, by omega⟩
        have w3_ : IntKind.i64.wrap (G * 2) = G * 2 := IntWalk.i64_in _ ⟨by omega, by omega⟩
        have w4_ : IntKind.i64.wrap (G * 2 * D) = G * 2 * D := IntWalk.i64_in _ ⟨by omega, by omega⟩
        have w5_ : IntKind.i64.wrap (H * a) = H * a := IntWalk.i64_in _ ⟨by omega, by omega⟩
        have w6_ : IntKind.i64.wrap (H * a * N) = G * 2 * D := by rw [← EG.out]; exact w4_
        have w7_ : IntKind.i64.wrap (M + X) = M + X := IntWalk.i64_in _ ⟨by omega, by omega⟩
        have w8_ : IntKind.i64.wrap (a * Y) = M + X := by rw [← EM.out]; exact w7_
        have w9_ : IntKind.i64.wrap (N.tdiv D) = N.tdiv D := IntWalk.i64_in _ ⟨by omega, by omega⟩
        clear e1 e1' e2 e2' e3 e3' e4 e4' e6 e6' t1 t2
        go_wp2_with fail
        refine ((HI1 _).out).mono ?_
        rintro e w' ⟨rfl, nA, rfl⟩
        go_wp2_with fail
        refine ((HI2 _).out).mono ?_
        rintro e w' ⟨rfl, nB, rfl⟩
        go_wp2_with fail
        refine ((HJ1 _).out).mono ?_
        rintro e w' ⟨rfl, nC, rfl⟩
        go_wp2_with fail
        refine ((HJ2 _).out).mono ?_
        rintro e w' ⟨rfl, nD, rfl⟩
        go_wp2_with fail
        refine wp_cond_f ?_ ?_
        · go_simp
        clear w0_ w1_ w2_ w3_ w4_ w5_ w6_ w7_ w8_ w9_ hD0 HI1 HI2 HJ1 HJ2 HX1 HX2 HX3 EG EM
        go_upto_region 27 with fail
        refine reframe fun T9 hT => ?_
        have hs9 : T9.size = 719 := by subst hT; simp [hs8]
        have q9_9 : At T9 5 (.pointer (some ⟨g, 0, none⟩)) := by subst hT; exact (by first | (simp only [At, ↓Array.getElem?_setIfInBounds_ne, ne_eq, Nat.reduceEqDiff, not_false_eq_true, q9_8]; done) | simp [At, hs8, f9_8, f1001_8, f19_8, f20_8, f25_8, f26_8, f31_8, f32_8, f37_8, f38_8, f43_8, f55_8, f56_8, f57_8, f58_8, f59_8, f60_8, f61_8, f62_8, f63_8])
        have f9_9 := fun hh => getq q9_9 hh
        have q1001_9 : At T9 1 (VY1) := by subst hT; exact (by first | (simp only [At, ↓Array.getElem?_setIfInBounds_ne, ne_eq, Nat.reduceEqDiff, not_false_eq_true, q1001_8]; done) | simp [At, hs8, f9_8, f1001_8, f19_8, f20_8, f25_8, f26_8, f31_8, f32_8, f37_8, f38_8, f43_8, f55_8, f56_8, f57_8, f58_8, f59_8, f60_8, f61_8, f62_8, f63_8])
        have f1001_9 := fun hh => getq q1001_9 hh
        have q19_9 : At T9 6 (.int .i64 N) := by subst hT; exact (by first | (simp only [At, ↓Array.getElem?_setIfInBounds_ne, ne_eq, Nat.reduceEqDiff, not_false_eq_true, q19_8]; done) | simp [At, hs8, f9_8, f1001_8, f19_8, f20_8, f25_8, f26_8, f31_8, f32_8, f37_8, f38_8, f43_8, f55_8, f56_8, f57_8, f58_8, f59_8, f60_8, f61_8, f62_8, f63_8])
        have f19_9 := fun hh => getq q19_9 hh
        have q20_9 : At T9 7 (.int .i64 D) := by subst hT; exact (by first | (simp only [At, ↓Array.getElem?_setIfInBounds_ne, ne_eq, Nat.reduceEqDiff, not_false_eq_true, q20_8]; done) | simp [At, hs8, f9_8, f1001_8, f19_8, f20_8, f25_8, f26_8, f31_8, f32_8, f37_8, f38_8, f43_8, f55_8, f56_8, f57_8, f58_8, f59_8, f60_8, f61_8, f62_8, f63_8])
        have f20_9 := fun hh => getq q20_9 hh
        have q31_9 : At T9 18 (.int .i64 G) := by subst hT; exact (by first | (simp only [At, ↓Array.getElem?_setIfInBounds_ne, ne_eq, Nat.reduceEqDiff, not_false_eq_true, q31_8]; done) | simp [At, hs8, f9_8, f1001_8, f19_8, f20_8, f25_8, f26_8, f31_8, f32_8, f37_8, f38_8, f43_8, f55_8, f56_8, f57_8, f58_8, f59_8, f60_8, f61_8, f62_8, f63_8])
        have f31_9 := fun hh => getq q31_9 hh
        have q32_9 : At T9 19 (.int .i64 H) := by subst hT; exact (by first | (simp only [At, ↓Array.getElem?_setIfInBounds_ne, ne_eq, Nat.reduceEqDiff, not_false_eq_true, q32_8]; done) | simp [At, hs8, f9_8, f1001_8, f19_8, f20_8, f25_8, f26_8, f31_8, f32_8, f37_8, f38_8, f43_8, f55_8, f56_8, f57_8, f58_8, f59_8, f60_8, f61_8, f62_8, f63_8])
        have f32_9 := fun hh => getq q32_9 hh
        have q37_9 : At T9 24 (.int .i64 U) := by subst hT; exact (by first | (simp only [At, ↓Array.getElem?_setIfInBounds_ne, ne_eq, Nat.reduceEqDiff, not_false_eq_true, q37_8]; done) | simp [At, hs8, f9_8, f1001_8, f19_8, f20_8, f25_8, f26_8, f31_8, f32_8, f37_8, f38_8, f43_8, f55_8, f56_8, f57_8, f58_8, f59_8, f60_8, f61_8, f62_8, f63_8])
        have f37_9 := fun hh => getq q37_9 hh
        have q38_9 : At T9 25 (.int .i64 V) := by subst hT; exact (by first | (simp only [At, ↓Array.getElem?_setIfInBounds_ne, ne_eq, Nat.reduceEqDiff, not_false_eq_true, q38_8]; done) | simp [At, hs8, f9_8, f1001_8, f19_8, f20_8, f25_8, f26_8, f31_8, f32_8, f37_8, f38_8, f43_8, f55_8, f56_8, f57_8, f58_8, f59_8, f60_8, f61_8, f62_8, f63_8])
        have f38_9 := fun hh => getq q38_9 hh
        have q55_9 : At T9 42 (.int .i64 (b + c)) := by subst hT; exact (by first | (simp only [At, ↓Array.getElem?_setIfInBounds_ne, ne_eq, Nat.reduceEqDiff, not_false_eq_true, q55_8]; done) | simp [At, hs8, f9_8, f1001_8, f19_8, f20_8, f25_8, f26_8, f31_8, f32_8, f37_8, f38_8, f43_8, f55_8, f56_8, f57_8, f58_8, f59_8, f60_8, f61_8, f62_8, f63_8])
        have f55_9 := fun hh => getq q55_9 hh
        clear hT f63_8 f62_8 f61_8 f60_8 f59_8 f58_8 f57_8 f56_8 f55_8 f43_8 f38_8 f37_8 f32_8 f31_8 f26_8 f25_8 f20_8 f19_8 f1001_8 f9_8 hs8 q9_8 q1001_8 q19_8 q20_8 q25_8 q26_8 q31_8 q32_8 q37_8 q38_8 q43_8 q55_8 q56_8 q57_8 q58_8 q59_8 q60_8 q61_8 q62_8 q63_8
        obtain ⟨e1, e1'⟩ := mul_bdx (a := U) (b := H) (m := 4000000000) (k := 4000) (by omega) (by omega) (by omega) (by omega)
        obtain ⟨e2, e2'⟩ := mul_bdx (a := G) (b := V) (m := 1000000000) (k := 4000) (by omega) (by omega) (by omega) (by omega)
        obtain ⟨e3, e3'⟩ := mul_bdx (a := a) (b := b + c) (m := 1000) (k := 2000) (by omega) (by omega) (by omega) (by omega)
        obtain ⟨e4, e4'⟩ := mul_bdx (a := a * (b + c)) (b := V) (m := 2000000) (k := 4000) (by omega) (by omega) (by omega) (by omega)
        have w1_ : IntKind.i64.wrap (U * H) = U * H := IntWalk.i64_in _ ⟨by omega, by omega⟩
        have w2_ : IntKind.i64.wrap (U * H * 2) = U * H * 2 := IntWalk.i64_in _ ⟨by omega, by omega⟩
        have w3_ : IntKind.i64.wrap (G * V) = G * V := IntWalk.i64_in _ ⟨by omega, by omega⟩
        have w4_ : IntKind.i64.wrap (G * V * 2) = G * V * 2 := IntWalk.i64_in _ ⟨by omega, by omega⟩
        have w5_ : IntKind.i64.wrap (U * H * 2 + G * V * 2) = U * H * 2 + G * V * 2 := IntWalk.i64_in _ ⟨by omega, by omega⟩
        have w6_ : IntKind.i64.wrap (a * (b + c)) = a * (b + c) := IntWalk.i64_in _ ⟨by omega, by omega⟩
        have w7_ : IntKind.i64.wrap (a * (b + c) * V) = a * (b + c) * V := IntWalk.i64_in _ ⟨by omega, by omega⟩
        have w8_ : IntKind.i64.wrap (a * (b + c) * V * H) = U * H * 2 + G * V * 2 := by rw [← EU.out]; exact w5_
        clear e1 e1' e2 e2' e3 e3' e4 e4'
        go_wp2_with fail
        refine wp_cond_f ?_ ?_
        · go_simp
        clear w1_ w2_ w3_ w4_ w5_ w6_ w7_ w8_ EU
        go_upto_region 29 with fail
        refine reframe fun T10 hT => ?_
        have hs10 : T10.size = 719 := by subst hT; simp [hs9]
        have q9_10 : At T10 5 (.pointer (some ⟨g, 0, none⟩)) := by subst hT; exact (by first | (simp only [At, ↓Array.getElem?_setIfInBounds_ne, ne_eq, Nat.reduceEqDiff, not_false_eq_true, q9_9]; done) | simp [At, hs9, f9_9, f1001_9, f19_9, f20_9, f31_9, f32_9, f37_9, f38_9, f55_9])
        have f9_10 := fun hh => getq q9_10 hh
        have q1001_10 : At T10 1 (VY1) := by subst hT; exact (by first | (simp only [At, ↓Array.getElem?_setIfInBounds_ne, ne_eq, Nat.reduceEqDiff, not_false_eq_true, q1001_9]; done) | simp [At, hs9, f9_9, f1001_9, f19_9, f20_9, f31_9, f32_9, f37_9, f38_9, f55_9])
        have f1001_10 := fun hh => getq q1001_10 hh
        have q19_10 : At T10 6 (.int .i64 N) := by subst hT; exact (by first | (simp only [At, ↓Array.getElem?_setIfInBounds_ne, ne_eq, Nat.reduceEqDiff, not_false_eq_true, q19_9]; done) | simp [At, hs9, f9_9, f1001_9, f19_9, f20_9, f31_9, f32_9, f37_9, f38_9, f55_9])
        have f19_10 := fun hh => getq q19_10 hh
        have q20_10 : At T10 7 (.int .i64 D) := by subst hT; exact (by first | (simp only [At, ↓Array.getElem?_setIfInBounds_ne, ne_eq, Nat.reduceEqDiff, not_false_eq_true, q20_9]; done) | simp [At, hs9, f9_9, f1001_9, f19_9, f20_9, f31_9, f32_9, f37_9, f38_9, f55_9])
        have f20_10 := fun hh => getq q20_10 hh
        clear hT f55_9 f38_9 f37_9 f32_9 f31_9 f20_9 f19_9 f1001_9 f9_9 hs9 q9_9 q1001_9 q19_9 q20_9 q31_9 q32_9 q37_9 q38_9 q55_9
        by_cases hN : N ≤ 1000
        · by_cases hD : D ≤ 1000
          · have HO := HO hN hD
            go_wp2_with fail
            refine wp_cond_t ?_ ?_
            · go_simp
            go_wp2_with fail
            refine ((HO _).out).mono ?_
            rintro e w120 ⟨rfl, hb_⟩
            have HFw120 := Lib.hid (Lay.after (w := w) (B := [(w118.heap.size, a, b, c), (w114.heap.size, a, c, b), (w113.heap.size, a, c, b), (g, a, b, c)]) (Lay.after (HFw119.out) (by repeat (first | exact Below.refl _ _ | refine bl_alloc ?_ _ | refine bl_drewN ?_ _ | refine bl_set ?_ (by first | omega | (simp; done) | (simp; omega)) _))) hb_)
            clear hb_ c00 c01 c02 z0 c10 c11 c12 z1 c20 c21 c22 z2 c30 c31 c32 z3
            obtain ⟨c00, c01, c02, z0, c10, c11, c12, z1, c20, c21, c22, z2, c30, c31, c32, z3, hbl⟩ := Lay.op (HFw120.out)
            clear hbl
            go_wp2_with fail
            refine wp_cond_f ?_ ?_
            · go_simp
            go_wp2_with fail
            refine Met.intro (hJ _ _ ⟨_, rfl, by simp [hs10], by first | (simp only [At, ↓Array.getElem?_setIfInBounds_ne, ne_eq, Nat.reduceEqDiff, not_false_eq_true, q1001_10]; done) | simp [At, hs10, f9_10, f1001_10, f19_10, f20_10], Lay.tl (Lay.tl (Lay.tl (Lay.tl (HFw120.out))))⟩)
          · skip
            go_wp2_with fail
            refine wp_cond_f ?_ ?_
            · go_simp
            go_wp2_with fail
            refine Met.intro (hJ _ _ ⟨_, rfl, by simp [hs10], by first | (simp only [At, ↓Array.getElem?_setIfInBounds_ne, ne_eq, Nat.reduceEqDiff, not_false_eq_true, q1001_10]; done) | simp [At, hs10, f9_10, f1001_10, f19_10, f20_10], (by repeat (first | exact Lay.tl (Lay.tl (Lay.tl (Lay.tl (HFw119.out)))) | refine Lay.drewN ?_ _))⟩)
        · skip
          go_wp2_with fail
          refine wp_cond_f ?_ ?_
          · go_simp
          go_wp2_with fail
          refine Met.intro (hJ _ _ ⟨_, rfl, by simp [hs10], by first | (simp only [At, ↓Array.getElem?_setIfInBounds_ne, ne_eq, Nat.reduceEqDiff, not_false_eq_true, q1001_10]; done) | simp [At, hs10, f9_10, f1001_10, f19_10, f20_10], (by repeat (first | exact Lay.tl (Lay.tl (Lay.tl (Lay.tl (HFw119.out)))) | refine Lay.drewN ?_ _))⟩)
    case rest2 =>
      intro a' wc2 hR2
      obtain ⟨T11, rfl, hs11, q1001_11, hL_⟩ := hR2
      have f1001_11 := fun hh => getq q1001_11 hh
      have HFwc2 := Lib.hid hL_
      clear hL_
      clear FA HTA HER HMX
      go_wp2_with fail
      refine ((hDH _ _ (Bytes.up H1.out (Lay.bl (HFwc2.out)))).out).mono ?_
      rintro e w3 ⟨ua, ub, uc, rt, p, rfl, hb_⟩
      have HFw3 := Lib.hid (Lay.after (HFwc2.out) hb_)
      clear hb_
      obtain ⟨R1, S1, X1, Y1, P1, Q1, OB, HG1, HG2, HH1, HH2, FB_⟩ := pack_LB ua ub uc rt p
      have FB := Lib.hid FB_
      clear FB_
      go_wp2_with fail
      refine ((HG1 _).out).mono ?_
      rintro e w121 ⟨rfl, hb_⟩
      have HFw121 := Lib.hid (Lay.after (w := w) (B := [(w3.heap.size, ua, ub, uc)]) (Lay.c (g := w3.heap.size) (x0 := ua) (x1 := ub) (x2 := uc) (by simp [go_sem]) (by simp [go_sem]) (by simp [go_sem]) (by first | (simp; done) | (simp; omega)) ((show Lay w [] _ from (by repeat (first | exact (Lay.bl (HFw3.out)) | refine bl_alloc ?_ _ | refine bl_set ?_ (by first | omega | (simp; done) | (simp; omega)) _))))) hb_)
      clear hb_ 
      obtain ⟨c00, c01, c02, z0, hbl⟩ := Lay.op (HFw121.out)
      clear hbl
      generalize w3.heap.size = g2 at *
      go_wp2_with fail
      refine ((HG2 _).out).mono ?_
      rintro e w122 ⟨rfl, hb_⟩
      have HFw122 := Lib.hid (Lay.after (w := w) (B := [(g2, ua, ub, uc)]) (Lay.after (HFw121.out) (by repeat (first | exact Below.refl _ _ | refine bl_alloc ?_ _ | refine bl_drewN ?_ _ | refine bl_set ?_ (by first | omega | (simp; done) | (simp; omega)) _))) hb_)
      clear hb_ c00 c01 c02 z0
      obtain ⟨c00, c01, c02, z0, hbl⟩ := Lay.op (HFw122.out)
      clear hbl
      go_wp2_with fail
      refine ((HH1 _).out).mono ?_
      rintro e w123 ⟨rfl, hb_⟩
      have HFw123 := Lib.hid (Lay.after (w := w) (B := [(g2, ua, ub, uc)]) (Lay.after (HFw122.out) (by repeat (first | exact Below.refl _ _ | refine bl_alloc ?_ _ | refine bl_drewN ?_ _ | refine bl_set ?_ (by first | omega | (simp; done) | (simp; omega)) _))) hb_)
      clear hb_ c00 c01 c02 z0
      obtain ⟨c00, c01, c02, z0, hbl⟩ := Lay.op (HFw123.out)
      clear hbl
      go_wp2_with fail
      refine ((HH2 _).out).mono ?_
      rintro e w124 ⟨rfl, hb_⟩
      have HFw124 := Lib.hid (Lay.after (w := w) (B := [(g2, ua, ub, uc)]) (Lay.after (HFw123.out) (by repeat (first | exact Below.refl _ _ | refine bl_alloc ?_ _ | refine bl_drewN ?_ _ | refine bl_set ?_ (by first | omega | (simp; done) | (simp; omega)) _))) hb_)
      clear hb_ c00 c01 c02 z0
      obtain ⟨c00, c01, c02, z0, hbl⟩ := Lay.op (HFw124.out)
      clear hbl
      go_upto_region 38 with fail
      refine reframe fun T12 hT => ?_
      have hs12 : T12.size = 719 := by subst hT; simp [hs11]
      have q1001_12 : At T12 1 (VY1) := by subst hT; exact (by first | (simp only [At, ↓Array.getElem?_setIfInBounds_ne, ne_eq, Nat.reduceEqDiff, not_false_eq_true, q1001_11]; done) | simp [At, hs11, f1001_11])
      have f1001_12 := fun hh => getq q1001_12 hh
      have q2_12 : At T12 55 (.bool rt) := by subst hT; exact (by first | (simp only [At, ↓Array.getElem?_setIfInBounds_ne, ne_eq, Nat.reduceEqDiff, not_false_eq_true]; done) | simp [At, hs11, f1001_11])
      have f2_12 := fun hh => getq q2_12 hh
      have q3_12 : At T12 56 (.int .i64 p) := by subst hT; exact (by first | (simp only [At, ↓Array.getElem?_setIfInBounds_ne, ne_eq, Nat.reduceEqDiff, not_false_eq_true]; done) | simp [At, hs11, f1001_11])
      have f3_12 := fun hh => getq q3_12 hh
      have q10_12 : At T12 54 (.pointer (some ⟨g2, 0, none⟩)) := by subst hT; exact (by first | (simp only [At, ↓Array.getElem?_setIfInBounds_ne, ne_eq, Nat.reduceEqDiff, not_false_eq_true]; done) | simp [At, hs11, f1001_11])
      have f10_12 := fun hh => getq q10_12 hh
      have q67_12 : At T12 57 (.int .i64 R1) := by subst hT; exact (by first | (simp only [At, ↓Array.getElem?_setIfInBounds_ne, ne_eq, Nat.reduceEqDiff, not_false_eq_true]; done) | simp [At, hs11, f1001_11])
      have f67_12 := fun hh => getq q67_12 hh
      have q68_12 : At T12 58 (.int .i64 S1) := by subst hT; exact (by first | (simp only [At, ↓Array.getElem?_setIfInBounds_ne, ne_eq, Nat.reduceEqDiff, not_false_eq_true]; done) | simp [At, hs11, f1001_11])
      have f68_12 := fun hh => getq q68_12 hh
      have q69_12 : At T12 59 (.bool OB) := by subst hT; exact (by first | (simp only [At, ↓Array.getElem?_setIfInBounds_ne, ne_eq, Nat.reduceEqDiff, not_false_eq_true]; done) | simp [At, hs11, f1001_11])
      have f69_12 := fun hh => getq q69_12 hh
      have q70_12 : At T12 60 (.int .i64 R1) := by subst hT; exact (by first | (simp only [At, ↓Array.getElem?_setIfInBounds_ne, ne_eq, Nat.reduceEqDiff, not_false_eq_true]; done) | simp [At, hs11, f1001_11])
      have f70_12 := fun hh => getq q70_12 hh
      have q71_12 : At T12 61 (.int .i64 S1) := by subst hT; exact (by first | (simp only [At, ↓Array.getElem?_setIfInBounds_ne, ne_eq, Nat.reduceEqDiff, not_false_eq_true]; done) | simp [At, hs11, f1001_11])
      have f71_12 := fun hh => getq q71_12 hh
      have q72_12 : At T12 62 (.bool OB) := by subst hT; exact (by first | (simp only [At, ↓Array.getElem?_setIfInBounds_ne, ne_eq, Nat.reduceEqDiff, not_false_eq_true]; done) | simp [At, hs11, f1001_11])
      have f72_12 := fun hh => getq q72_12 hh
      have q73_12 : At T12 63 (.int .i64 X1) := by subst hT; exact (by first | (simp only [At, ↓Array.getElem?_setIfInBounds_ne, ne_eq, Nat.reduceEqDiff, not_false_eq_true]; done) | simp [At, hs11, f1001_11])
      have f73_12 := fun hh => getq q73_12 hh
      have q74_12 : At T12 64 (.int .i64 Y1) := by subst hT; exact (by first | (simp only [At, ↓Array.getElem?_setIfInBounds_ne, ne_eq, Nat.reduceEqDiff, not_false_eq_true]; done) | simp [At, hs11, f1001_11])
      have f74_12 := fun hh => getq q74_12 hh
      have q75_12 : At T12 65 (.bool OB) := by subst hT; exact (by first | (simp only [At, ↓Array.getElem?_setIfInBounds_ne, ne_eq, Nat.reduceEqDiff, not_false_eq_true]; done) | simp [At, hs11, f1001_11])
      have f75_12 := fun hh => getq q75_12 hh
      have q76_12 : At T12 66 (.int .i64 X1) := by subst hT; exact (by first | (simp only [At, ↓Array.getElem?_setIfInBounds_ne, ne_eq, Nat.reduceEqDiff, not_false_eq_true]; done) | simp [At, hs11, f1001_11])
      have f76_12 := fun hh => getq q76_12 hh
      have q77_12 : At T12 67 (.int .i64 Y1) := by subst hT; exact (by first | (simp only [At, ↓Array.getElem?_setIfInBounds_ne, ne_eq, Nat.reduceEqDiff, not_false_eq_true]; done) | simp [At, hs11, f1001_11])
      have f77_12 := fun hh => getq q77_12 hh
      have q78_12 : At T12 68 (.bool OB) := by subst hT; exact (by first | (simp only [At, ↓Array.getElem?_setIfInBounds_ne, ne_eq, Nat.reduceEqDiff, not_false_eq_true]; done) | simp [At, hs11, f1001_11])
      have f78_12 := fun hh => getq q78_12 hh
      clear hT f1001_11 hs11 q1001_11
      go_wp2_with fail
      refine (DrawOtherHeight_any _ _ (Bytes.up H1.out (Lay.bl (HFw124.out)))).mono ?_
      rintro e w5 ⟨h, n, k, rfl, hb_⟩
      have HFw5 := Lib.hid (Lay.after (HFw124.out) hb_)
      clear hb_ c00 c01 c02 z0
      obtain ⟨c00, c01, c02, z0, hbl⟩ := Lay.op (HFw5.out)
      clear hbl
      obtain ⟨P2, Q2, OC, HO1, HO2, FC_⟩ := pack_LC h n k
      have FC := Lib.hid FC_
      clear FC_
      go_wp2_with fail
      refine ((HO1 _).out).mono ?_
      rintro e w125 ⟨rfl, hb_⟩
      have HFw125 := Lib.hid (Lay.after (w := w) (B := [(g2, ua, ub, uc)]) (Lay.after (HFw5.out) (by repeat (first | exact Below.refl _ _ | refine bl_alloc ?_ _ | refine bl_drewN ?_ _ | refine bl_set ?_ (by first | omega | (simp; done) | (simp; omega)) _))) hb_)
      clear hb_ c00 c01 c02 z0
      obtain ⟨c00, c01, c02, z0, hbl⟩ := Lay.op (HFw125.out)
      clear hbl
      go_wp2_with fail
      refine ((HO2 _).out).mono ?_
      rintro e w126 ⟨rfl, hb_⟩
      have HFw126 := Lib.hid (Lay.after (w := w) (B := [(g2, ua, ub, uc)]) (Lay.after (HFw125.out) (by repeat (first | exact Below.refl _ _ | refine bl_alloc ?_ _ | refine bl_drewN ?_ _ | refine bl_set ?_ (by first | omega | (simp; done) | (simp; omega)) _))) hb_)
      clear hb_ c00 c01 c02 z0
      obtain ⟨c00, c01, c02, z0, hbl⟩ := Lay.op (HFw126.out)
      clear hbl
      go_upto_region 41 with fail
      refine reframe fun T13 hT => ?_
      have hs13 : T13.size = 719 := by subst hT; simp [hs12]
      have q1001_13 : At T13 1 (VY1) := by subst hT; exact (by first | (simp only [At, ↓Array.getElem?_setIfInBounds_ne, ne_eq, Nat.reduceEqDiff, not_false_eq_true, q1001_12]; done) | simp [At, hs12, f1001_12, f2_12, f3_12, f10_12, f67_12, f68_12, f69_12, f70_12, f71_12, f72_12, f73_12, f74_12, f75_12, f76_12, f77_12, f78_12])
      have f1001_13 := fun hh => getq q1001_13 hh
      have q2_13 : At T13 55 (.bool rt) := by subst hT; exact (by first | (simp only [At, ↓Array.getElem?_setIfInBounds_ne, ne_eq, Nat.reduceEqDiff, not_false_eq_true, q2_12]; done) | simp [At, hs12, f1001_12, f2_12, f3_12, f10_12, f67_12, f68_12, f69_12, f70_12, f71_12, f72_12, f73_12, f74_12, f75_12, f76_12, f77_12, f78_12])
      have f2_13 := fun hh => getq q2_13 hh
      have q3_13 : At T13 56 (.int .i64 p) := by subst hT; exact (by first | (simp only [At, ↓Array.getElem?_setIfInBounds_ne, ne_eq, Nat.reduceEqDiff, not_false_eq_true, q3_12]; done) | simp [At, hs12, f1001_12, f2_12, f3_12, f10_12, f67_12, f68_12, f69_12, f70_12, f71_12, f72_12, f73_12, f74_12, f75_12, f76_12, f77_12, f78_12])
      have f3_13 := fun hh => getq q3_13 hh
      have q10_13 : At T13 54 (.pointer (some ⟨g2, 0, none⟩)) := by subst hT; exact (by first | (simp only [At, ↓Array.getElem?_setIfInBounds_ne, ne_eq, Nat.reduceEqDiff, not_false_eq_true, q10_12]; done) | simp [At, hs12, f1001_12, f2_12, f3_12, f10_12, f67_12, f68_12, f69_12, f70_12, f71_12, f72_12, f73_12, f74_12, f75_12, f76_12, f77_12, f78_12])
      have f10_13 := fun hh => getq q10_13 hh
      have q67_13 : At T13 57 (.int .i64 R1) := by subst hT; exact (by first | (simp only [At, ↓Array.getElem?_setIfInBounds_ne, ne_eq, Nat.reduceEqDiff, not_false_eq_true, q67_12]; done) | simp [At, hs12, f1001_12, f2_12, f3_12, f10_12, f67_12, f68_12, f69_12, f70_12, f71_12, f72_12, f73_12, f74_12, f75_12, f76_12, f77_12, f78_12])
      have f67_13 := fun hh => getq q67_13 hh
      have q68_13 : At T13 58 (.int .i64 S1) := by subst hT; exact (by first | (simp only [At, ↓Array.getElem?_setIfInBounds_ne, ne_eq, Nat.reduceEqDiff, not_false_eq_true, q68_12]; done) | simp [At, hs12, f1001_12, f2_12, f3_12, f10_12, f67_12, f68_12, f69_12, f70_12, f71_12, f72_12, f73_12, f74_12, f75_12, f76_12, f77_12, f78_12])
      have f68_13 := fun hh => getq q68_13 hh
      have q69_13 : At T13 59 (.bool OB) := by subst hT; exact (by first | (simp only [At, ↓Array.getElem?_setIfInBounds_ne, ne_eq, Nat.reduceEqDiff, not_false_eq_true, q69_12]; done) | simp [At, hs12, f1001_12, f2_12, f3_12, f10_12, f67_12, f68_12, f69_12, f70_12, f71_12, f72_12, f73_12, f74_12, f75_12, f76_12, f77_12, f78_12])
      have f69_13 := fun hh => getq q69_13 hh
      have q70_13 : At T13 60 (.int .i64 R1) := by subst hT; exact (by first | (simp only [At, ↓Array.getElem?_setIfInBounds_ne, ne_eq, Nat.reduceEqDiff, not_false_eq_true, q70_12]; done) | simp [At, hs12, f1001_12, f2_12, f3_12, f10_12, f67_12, f68_12, f69_12, f70_12, f71_12, f72_12, f73_12, f74_12, f75_12, f76_12, f77_12, f78_12])
      have f70_13 := fun hh => getq q70_13 hh
      have q71_13 : At T13 61 (.int .i64 S1) := by subst hT; exact (by first | (simp only [At, ↓Array.getElem?_setIfInBounds_ne, ne_eq, Nat.reduceEqDiff, not_false_eq_true, q71_12]; done) | simp [At, hs12, f1001_12, f2_12, f3_12, f10_12, f67_12, f68_12, f69_12, f70_12, f71_12, f72_12, f73_12, f74_12, f75_12, f76_12, f77_12, f78_12])
      have f71_13 := fun hh => getq q71_13 hh
      have q72_13 : At T13 62 (.bool OB) := by subst hT; exact (by first | (simp only [At, ↓Array.getElem?_setIfInBounds_ne, ne_eq, Nat.reduceEqDiff, not_false_eq_true, q72_12]; done) | simp [At, hs12, f1001_12, f2_12, f3_12, f10_12, f67_12, f68_12, f69_12, f70_12, f71_12, f72_12, f73_12, f74_12, f75_12, f76_12, f77_12, f78_12])
      have f72_13 := fun hh => getq q72_13 hh
      have q73_13 : At T13 63 (.int .i64 X1) := by subst hT; exact (by first | (simp only [At, ↓Array.getElem?_setIfInBounds_ne, ne_eq, Nat.reduceEqDiff, not_false_eq_true, q73_12]; done) | simp [At, hs12, f1001_12, f2_12, f3_12, f10_12, f67_12, f68_12, f69_12, f70_12, f71_12, f72_12, f73_12, f74_12, f75_12, f76_12, f77_12, f78_12])
      have f73_13 := fun hh => getq q73_13 hh
      have q74_13 : At T13 64 (.int .i64 Y1) := by subst hT; exact (by first | (simp only [At, ↓Array.getElem?_setIfInBounds_ne, ne_eq, Nat.reduceEqDiff, not_false_eq_true, q74_12]; done) | simp [At, hs12, f1001_12, f2_12, f3_12, f10_12, f67_12, f68_12, f69_12, f70_12, f71_12, f72_12, f73_12, f74_12, f75_12, f76_12, f77_12, f78_12])
      have f74_13 := fun hh => getq q74_13 hh
      have q75_13 : At T13 65 (.bool OB) := by subst hT; exact (by first | (simp only [At, ↓Array.getElem?_setIfInBounds_ne, ne_eq, Nat.reduceEqDiff, not_false_eq_true, q75_12]; done) | simp [At, hs12, f1001_12, f2_12, f3_12, f10_12, f67_12, f68_12, f69_12, f70_12, f71_12, f72_12, f73_12, f74_12, f75_12, f76_12, f77_12, f78_12])
      have f75_13 := fun hh => getq q75_13 hh
      have q76_13 : At T13 66 (.int .i64 X1) := by subst hT; exact (by first | (simp only [At, ↓Array.getElem?_setIfInBounds_ne, ne_eq, Nat.reduceEqDiff, not_false_eq_true, q76_12]; done) | simp [At, hs12, f1001_12, f2_12, f3_12, f10_12, f67_12, f68_12, f69_12, f70_12, f71_12, f72_12, f73_12, f74_12, f75_12, f76_12, f77_12, f78_12])
      have f76_13 := fun hh => getq q76_13 hh
      have q77_13 : At T13 67 (.int .i64 Y1) := by subst hT; exact (by first | (simp only [At, ↓Array.getElem?_setIfInBounds_ne, ne_eq, Nat.reduceEqDiff, not_false_eq_true, q77_12]; done) | simp [At, hs12, f1001_12, f2_12, f3_12, f10_12, f67_12, f68_12, f69_12, f70_12, f71_12, f72_12, f73_12, f74_12, f75_12, f76_12, f77_12, f78_12])
      have f77_13 := fun hh => getq q77_13 hh
      have q78_13 : At T13 68 (.bool OB) := by subst hT; exact (by first | (simp only [At, ↓Array.getElem?_setIfInBounds_ne, ne_eq, Nat.reduceEqDiff, not_false_eq_true, q78_12]; done) | simp [At, hs12, f1001_12, f2_12, f3_12, f10_12, f67_12, f68_12, f69_12, f70_12, f71_12, f72_12, f73_12, f74_12, f75_12, f76_12, f77_12, f78_12])
      have f78_13 := fun hh => getq q78_13 hh
      have q4_13 : At T13 69 (.int .i64 h) := by subst hT; exact (by first | (simp only [At, ↓Array.getElem?_setIfInBounds_ne, ne_eq, Nat.reduceEqDiff, not_false_eq_true]; done) | simp [At, hs12, f1001_12, f2_12, f3_12, f10_12, f67_12, f68_12, f69_12, f70_12, f71_12, f72_12, f73_12, f74_12, f75_12, f76_12, f77_12, f78_12])
      have f4_13 := fun hh => getq q4_13 hh
      have q5_13 : At T13 70 (.int .i64 n) := by subst hT; exact (by first | (simp only [At, ↓Array.getElem?_setIfInBounds_ne, ne_eq, Nat.reduceEqDiff, not_false_eq_true]; done) | simp [At, hs12, f1001_12, f2_12, f3_12, f10_12, f67_12, f68_12, f69_12, f70_12, f71_12, f72_12, f73_12, f74_12, f75_12, f76_12, f77_12, f78_12])
      have f5_13 := fun hh => getq q5_13 hh
      have q6_13 : At T13 71 (.int .i64 k) := by subst hT; exact (by first | (simp only [At, ↓Array.getElem?_setIfInBounds_ne, ne_eq, Nat.reduceEqDiff, not_false_eq_true]; done) | simp [At, hs12, f1001_12, f2_12, f3_12, f10_12, f67_12, f68_12, f69_12, f70_12, f71_12, f72_12, f73_12, f74_12, f75_12, f76_12, f77_12, f78_12])
      have f6_13 := fun hh => getq q6_13 hh
      have q79_13 : At T13 72 (.int .i64 P2) := by subst hT; exact (by first | (simp only [At, ↓Array.getElem?_setIfInBounds_ne, ne_eq, Nat.reduceEqDiff, not_false_eq_true]; done) | simp [At, hs12, f1001_12, f2_12, f3_12, f10_12, f67_12, f68_12, f69_12, f70_12, f71_12, f72_12, f73_12, f74_12, f75_12, f76_12, f77_12, f78_12])
      have f79_13 := fun hh => getq q79_13 hh
      have q80_13 : At T13 73 (.int .i64 Q2) := by subst hT; exact (by first | (simp only [At, ↓Array.getElem?_setIfInBounds_ne, ne_eq, Nat.reduceEqDiff, not_false_eq_true]; done) | simp [At, hs12, f1001_12, f2_12, f3_12, f10_12, f67_12, f68_12, f69_12, f70_12, f71_12, f72_12, f73_12, f74_12, f75_12, f76_12, f77_12, f78_12])
      have f80_13 := fun hh => getq q80_13 hh
      have q81_13 : At T13 74 (.bool OC) := by subst hT; exact (by first | (simp only [At, ↓Array.getElem?_setIfInBounds_ne, ne_eq, Nat.reduceEqDiff, not_false_eq_true]; done) | simp [At, hs12, f1001_12, f2_12, f3_12, f10_12, f67_12, f68_12, f69_12, f70_12, f71_12, f72_12, f73_12, f74_12, f75_12, f76_12, f77_12, f78_12])
      have f81_13 := fun hh => getq q81_13 hh
      have q82_13 : At T13 75 (.int .i64 P2) := by subst hT; exact (by first | (simp only [At, ↓Array.getElem?_setIfInBounds_ne, ne_eq, Nat.reduceEqDiff, not_false_eq_true]; done) | simp [At, hs12, f1001_12, f2_12, f3_12, f10_12, f67_12, f68_12, f69_12, f70_12, f71_12, f72_12, f73_12, f74_12, f75_12, f76_12, f77_12, f78_12])
      have f82_13 := fun hh => getq q82_13 hh
      have q83_13 : At T13 76 (.int .i64 Q2) := by subst hT; exact (by first | (simp only [At, ↓Array.getElem?_setIfInBounds_ne, ne_eq, Nat.reduceEqDiff, not_false_eq_true]; done) | simp [At, hs12, f1001_12, f2_12, f3_12, f10_12, f67_12, f68_12, f69_12, f70_12, f71_12, f72_12, f73_12, f74_12, f75_12, f76_12, f77_12, f78_12])
      have f83_13 := fun hh => getq q83_13 hh
      have q84_13 : At T13 77 (.bool OC) := by subst hT; exact (by first | (simp only [At, ↓Array.getElem?_setIfInBounds_ne, ne_eq, Nat.reduceEqDiff, not_false_eq_true]; done) | simp [At, hs12, f1001_12, f2_12, f3_12, f10_12, f67_12, f68_12, f69_12, f70_12, f71_12, f72_12, f73_12, f74_12, f75_12, f76_12, f77_12, f78_12])
      have f84_13 := fun hh => getq q84_13 hh
      clear hT f78_12 f77_12 f76_12 f75_12 f74_12 f73_12 f72_12 f71_12 f70_12 f69_12 f68_12 f67_12 f10_12 f3_12 f2_12 f1001_12 hs12 q1001_12 q2_12 q3_12 q10_12 q67_12 q68_12 q69_12 q70_12 q71_12 q72_12 q73_12 q74_12 q75_12 q76_12 q77_12 q78_12
      go_wp2_with fail
      refine (DrawMoveWall_any _ _ (Bytes.up H1.out (Lay.bl (HFw126.out)))).mono ?_
      rintro e w7 ⟨za, zb, zc, v, rfl, hb_⟩
      have HFw7 := Lib.hid (Lay.after (HFw126.out) hb_)
      clear hb_ c00 c01 c02 z0
      obtain ⟨c00, c01, c02, z0, hbl⟩ := Lay.op (HFw7.out)
      clear hbl
      obtain ⟨n1, n2, n3, P3, Q3, OM, HV1, HV2, FD_⟩ := pack_LD za zb zc v
      have FD := Lib.hid FD_
      clear FD_
      go_wp2_with fail
      refine ((HV1 _).out).mono ?_
      rintro e w127 ⟨rfl, hb_⟩
      have HFw127 := Lib.hid (Lay.after (w := w) (B := [(w7.heap.size, za, zb, zc), (g2, ua, ub, uc)]) (Lay.c (g := w7.heap.size) (x0 := za) (x1 := zb) (x2 := zc) (by simp [go_sem]) (by simp [go_sem]) (by simp [go_sem]) (by first | (simp; done) | (simp; omega)) (Lay.after (HFw7.out) (by repeat (first | exact Below.refl _ _ | refine bl_alloc ?_ _ | refine bl_drewN ?_ _ | refine bl_set ?_ (by first | omega | (simp; done) | (simp; omega)) _)))) hb_)
      clear hb_ c00 c01 c02 z0
      obtain ⟨c00, c01, c02, z0, c10, c11, c12, z1, hbl⟩ := Lay.op (HFw127.out)
      clear hbl
      generalize w7.heap.size = g3 at *
      go_wp2_with fail
      refine ((HV2 _).out).mono ?_
      rintro e w128 ⟨rfl, hb_⟩
      have HFw128 := Lib.hid (Lay.after (w := w) (B := [(w127.heap.size, n1, n2, n3), (g3, za, zb, zc), (g2, ua, ub, uc)]) (Lay.c (g := w127.heap.size) (x0 := n1) (x1 := n2) (x2 := n3) (by simp [go_sem]) (by simp [go_sem]) (by simp [go_sem]) (by first | (simp; done) | (simp; omega)) (Lay.after (HFw127.out) (by repeat (first | exact Below.refl _ _ | refine bl_alloc ?_ _ | refine bl_drewN ?_ _ | refine bl_set ?_ (by first | omega | (simp; done) | (simp; omega)) _)))) hb_)
      clear hb_ c00 c01 c02 z0 c10 c11 c12 z1
      obtain ⟨c00, c01, c02, z0, c10, c11, c12, z1, c20, c21, c22, z2, hbl⟩ := Lay.op (HFw128.out)
      clear hbl
      go_upto_region 44 with fail
      refine reframe fun T14 hT => ?_
      have hs14 : T14.size = 719 := by subst hT; simp [hs13]
      have q2_14 : At T14 55 (.bool rt) := by subst hT; exact (by first | (simp only [At, ↓Array.getElem?_setIfInBounds_ne, ne_eq, Nat.reduceEqDiff, not_false_eq_true, q2_13]; done) | simp [At, hs13, f1001_13, f2_13, f3_13, f10_13, f67_13, f68_13, f69_13, f70_13, f71_13, f72_13, f73_13, f74_13, f75_13, f76_13, f77_13, f78_13, f4_13, f5_13, f6_13, f79_13, f80_13, f81_13, f82_13, f83_13, f84_13])
      have f2_14 := fun hh => getq q2_14 hh
      have q3_14 : At T14 56 (.int .i64 p) := by subst hT; exact (by first | (simp only [At, ↓Array.getElem?_setIfInBounds_ne, ne_eq, Nat.reduceEqDiff, not_false_eq_true, q3_13]; done) | simp [At, hs13, f1001_13, f2_13, f3_13, f10_13, f67_13, f68_13, f69_13, f70_13, f71_13, f72_13, f73_13, f74_13, f75_13, f76_13, f77_13, f78_13, f4_13, f5_13, f6_13, f79_13, f80_13, f81_13, f82_13, f83_13, f84_13])
      have f3_14 := fun hh => getq q3_14 hh
      have q4_14 : At T14 69 (.int .i64 h) := by subst hT; exact (by first | (simp only [At, ↓Array.getElem?_setIfInBounds_ne, ne_eq, Nat.reduceEqDiff, not_false_eq_true, q4_13]; done) | simp [At, hs13, f1001_13, f2_13, f3_13, f10_13, f67_13, f68_13, f69_13, f70_13, f71_13, f72_13, f73_13, f74_13, f75_13, f76_13, f77_13, f78_13, f4_13, f5_13, f6_13, f79_13, f80_13, f81_13, f82_13, f83_13, f84_13])
      have f4_14 := fun hh => getq q4_14 hh
      have q5_14 : At T14 70 (.int .i64 n) := by subst hT; exact (by first | (simp only [At, ↓Array.getElem?_setIfInBounds_ne, ne_eq, Nat.reduceEqDiff, not_false_eq_true, q5_13]; done) | simp [At, hs13, f1001_13, f2_13, f3_13, f10_13, f67_13, f68_13, f69_13, f70_13, f71_13, f72_13, f73_13, f74_13, f75_13, f76_13, f77_13, f78_13, f4_13, f5_13, f6_13, f79_13, f80_13, f81_13, f82_13, f83_13, f84_13])
      have f5_14 := fun hh => getq q5_14 hh
      have q6_14 : At T14 71 (.int .i64 k) := by subst hT; exact (by first | (simp only [At, ↓Array.getElem?_setIfInBounds_ne, ne_eq, Nat.reduceEqDiff, not_false_eq_true, q6_13]; done) | simp [At, hs13, f1001_13, f2_13, f3_13, f10_13, f67_13, f68_13, f69_13, f70_13, f71_13, f72_13, f73_13, f74_13, f75_13, f76_13, f77_13, f78_13, f4_13, f5_13, f6_13, f79_13, f80_13, f81_13, f82_13, f83_13, f84_13])
      have f6_14 := fun hh => getq q6_14 hh
      have q8_14 : At T14 79 (.int .i64 v) := by subst hT; exact (by first | (simp only [At, ↓Array.getElem?_setIfInBounds_ne, ne_eq, Nat.reduceEqDiff, not_false_eq_true]; done) | simp [At, hs13, f1001_13, f2_13, f3_13, f10_13, f67_13, f68_13, f69_13, f70_13, f71_13, f72_13, f73_13, f74_13, f75_13, f76_13, f77_13, f78_13, f4_13, f5_13, f6_13, f79_13, f80_13, f81_13, f82_13, f83_13, f84_13])
      have f8_14 := fun hh => getq q8_14 hh
      have q10_14 : At T14 54 (.pointer (some ⟨g2, 0, none⟩)) := by subst hT; exact (by first | (simp only [At, ↓Array.getElem?_setIfInBounds_ne, ne_eq, Nat.reduceEqDiff, not_false_eq_true, q10_13]; done) | simp [At, hs13, f1001_13, f2_13, f3_13, f10_13, f67_13, f68_13, f69_13, f70_13, f71_13, f72_13, f73_13, f74_13, f75_13, f76_13, f77_13, f78_13, f4_13, f5_13, f6_13, f79_13, f80_13, f81_13, f82_13, f83_13, f84_13])
      have f10_14 := fun hh => getq q10_14 hh
      have q16_14 : At T14 78 (.pointer (some ⟨g3, 0, none⟩)) := by subst hT; exact (by first | (simp only [At, ↓Array.getElem?_setIfInBounds_ne, ne_eq, Nat.reduceEqDiff, not_false_eq_true]; done) | simp [At, hs13, f1001_13, f2_13, f3_13, f10_13, f67_13, f68_13, f69_13, f70_13, f71_13, f72_13, f73_13, f74_13, f75_13, f76_13, f77_13, f78_13, f4_13, f5_13, f6_13, f79_13, f80_13, f81_13, f82_13, f83_13, f84_13])
      have f16_14 := fun hh => getq q16_14 hh
      have q67_14 : At T14 57 (.int .i64 R1) := by subst hT; exact (by first | (simp only [At, ↓Array.getElem?_setIfInBounds_ne, ne_eq, Nat.reduceEqDiff, not_false_eq_true, q67_13]; done) | simp [At, hs13, f1001_13, f2_13, f3_13, f10_13, f67_13, f68_13, f69_13, f70_13, f71_13, f72_13, f73_13, f74_13, f75_13, f76_13, f77_13, f78_13, f4_13, f5_13, f6_13, f79_13, f80_13, f81_13, f82_13, f83_13, f84_13])
      have f67_14 := fun hh => getq q67_14 hh
      have q68_14 : At T14 58 (.int .i64 S1) := by subst hT; exact (by first | (simp only [At, ↓Array.getElem?_setIfInBounds_ne, ne_eq, Nat.reduceEqDiff, not_false_eq_true, q68_13]; done) | simp [At, hs13, f1001_13, f2_13, f3_13, f10_13, f67_13, f68_13, f69_13, f70_13, f71_13, f72_13, f73_13, f74_13, f75_13, f76_13, f77_13, f78_13, f4_13, f5_13, f6_13, f79_13, f80_13, f81_13, f82_13, f83_13, f84_13])
      have f68_14 := fun hh => getq q68_14 hh
      have q69_14 : At T14 59 (.bool OB) := by subst hT; exact (by first | (simp only [At, ↓Array.getElem?_setIfInBounds_ne, ne_eq, Nat.reduceEqDiff, not_false_eq_true, q69_13]; done) | simp [At, hs13, f1001_13, f2_13, f3_13, f10_13, f67_13, f68_13, f69_13, f70_13, f71_13, f72_13, f73_13, f74_13, f75_13, f76_13, f77_13, f78_13, f4_13, f5_13, f6_13, f79_13, f80_13, f81_13, f82_13, f83_13, f84_13])
      have f69_14 := fun hh => getq q69_14 hh
      have q70_14 : At T14 60 (.int .i64 R1) := by subst hT; exact (by first | (simp only [At, ↓Array.getElem?_setIfInBounds_ne, ne_eq, Nat.reduceEqDiff, not_false_eq_true, q70_13]; done) | simp [At, hs13, f1001_13, f2_13, f3_13, f10_13, f67_13, f68_13, f69_13, f70_13, f71_13, f72_13, f73_13, f74_13, f75_13, f76_13, f77_13, f78_13, f4_13, f5_13, f6_13, f79_13, f80_13, f81_13, f82_13, f83_13, f84_13])
      have f70_14 := fun hh => getq q70_14 hh
      have q71_14 : At T14 61 (.int .i64 S1) := by subst hT; exact (by first | (simp only [At, ↓Array.getElem?_setIfInBounds_ne, ne_eq, Nat.reduceEqDiff, not_false_eq_true, q71_13]; done) | simp [At, hs13, f1001_13, f2_13, f3_13, f10_13, f67_13, f68_13, f69_13, f70_13, f71_13, f72_13, f73_13, f74_13, f75_13, f76_13, f77_13, f78_13, f4_13, f5_13, f6_13, f79_13, f80_13, f81_13, f82_13, f83_13, f84_13])
      have f71_14 := fun hh => getq q71_14 hh
      have q72_14 : At T14 62 (.bool OB) := by subst hT; exact (by first | (simp only [At, ↓Array.getElem?_setIfInBounds_ne, ne_eq, Nat.reduceEqDiff, not_false_eq_true, q72_13]; done) | simp [At, hs13, f1001_13, f2_13, f3_13, f10_13, f67_13, f68_13, f69_13, f70_13, f71_13, f72_13, f73_13, f74_13, f75_13, f76_13, f77_13, f78_13, f4_13, f5_13, f6_13, f79_13, f80_13, f81_13, f82_13, f83_13, f84_13])
      have f72_14 := fun hh => getq q72_14 hh
      have q73_14 : At T14 63 (.int .i64 X1) := by subst hT; exact (by first | (simp only [At, ↓Array.getElem?_setIfInBounds_ne, ne_eq, Nat.reduceEqDiff, not_false_eq_true, q73_13]; done) | simp [At, hs13, f1001_13, f2_13, f3_13, f10_13, f67_13, f68_13, f69_13, f70_13, f71_13, f72_13, f73_13, f74_13, f75_13, f76_13, f77_13, f78_13, f4_13, f5_13, f6_13, f79_13, f80_13, f81_13, f82_13, f83_13, f84_13])
      have f73_14 := fun hh => getq q73_14 hh
      have q74_14 : At T14 64 (.int .i64 Y1) := by subst hT; exact (by first | (simp only [At, ↓Array.getElem?_setIfInBounds_ne, ne_eq, Nat.reduceEqDiff, not_false_eq_true, q74_13]; done) | simp [At, hs13, f1001_13, f2_13, f3_13, f10_13, f67_13, f68_13, f69_13, f70_13, f71_13, f72_13, f73_13, f74_13, f75_13, f76_13, f77_13, f78_13, f4_13, f5_13, f6_13, f79_13, f80_13, f81_13, f82_13, f83_13, f84_13])
      have f74_14 := fun hh => getq q74_14 hh
      have q75_14 : At T14 65 (.bool OB) := by subst hT; exact (by first | (simp only [At, ↓Array.getElem?_setIfInBounds_ne, ne_eq, Nat.reduceEqDiff, not_false_eq_true, q75_13]; done) | simp [At, hs13, f1001_13, f2_13, f3_13, f10_13, f67_13, f68_13, f69_13, f70_13, f71_13, f72_13, f73_13, f74_13, f75_13, f76_13, f77_13, f78_13, f4_13, f5_13, f6_13, f79_13, f80_13, f81_13, f82_13, f83_13, f84_13])
      have f75_14 := fun hh => getq q75_14 hh
      have q76_14 : At T14 66 (.int .i64 X1) := by subst hT; exact (by first | (simp only [At, ↓Array.getElem?_setIfInBounds_ne, ne_eq, Nat.reduceEqDiff, not_false_eq_true, q76_13]; done) | simp [At, hs13, f1001_13, f2_13, f3_13, f10_13, f67_13, f68_13, f69_13, f70_13, f71_13, f72_13, f73_13, f74_13, f75_13, f76_13, f77_13, f78_13, f4_13, f5_13, f6_13, f79_13, f80_13, f81_13, f82_13, f83_13, f84_13])
      have f76_14 := fun hh => getq q76_14 hh
      have q77_14 : At T14 67 (.int .i64 Y1) := by subst hT; exact (by first | (simp only [At, ↓Array.getElem?_setIfInBounds_ne, ne_eq, Nat.reduceEqDiff, not_false_eq_true, q77_13]; done) | simp [At, hs13, f1001_13, f2_13, f3_13, f10_13, f67_13, f68_13, f69_13, f70_13, f71_13, f72_13, f73_13, f74_13, f75_13, f76_13, f77_13, f78_13, f4_13, f5_13, f6_13, f79_13, f80_13, f81_13, f82_13, f83_13, f84_13])
      have f77_14 := fun hh => getq q77_14 hh
      have q78_14 : At T14 68 (.bool OB) := by subst hT; exact (by first | (simp only [At, ↓Array.getElem?_setIfInBounds_ne, ne_eq, Nat.reduceEqDiff, not_false_eq_true, q78_13]; done) | simp [At, hs13, f1001_13, f2_13, f3_13, f10_13, f67_13, f68_13, f69_13, f70_13, f71_13, f72_13, f73_13, f74_13, f75_13, f76_13, f77_13, f78_13, f4_13, f5_13, f6_13, f79_13, f80_13, f81_13, f82_13, f83_13, f84_13])
      have f78_14 := fun hh => getq q78_14 hh
      have q79_14 : At T14 72 (.int .i64 P2) := by subst hT; exact (by first | (simp only [At, ↓Array.getElem?_setIfInBounds_ne, ne_eq, Nat.reduceEqDiff, not_false_eq_true, q79_13]; done) | simp [At, hs13, f1001_13, f2_13, f3_13, f10_13, f67_13, f68_13, f69_13, f70_13, f71_13, f72_13, f73_13, f74_13, f75_13, f76_13, f77_13, f78_13, f4_13, f5_13, f6_13, f79_13, f80_13, f81_13, f82_13, f83_13, f84_13])
      have f79_14 := fun hh => getq q79_14 hh
      have q80_14 : At T14 73 (.int .i64 Q2) := by subst hT; exact (by first | (simp only [At, ↓Array.getElem?_setIfInBounds_ne, ne_eq, Nat.reduceEqDiff, not_false_eq_true, q80_13]; done) | simp [At, hs13, f1001_13, f2_13, f3_13, f10_13, f67_13, f68_13, f69_13, f70_13, f71_13, f72_13, f73_13, f74_13, f75_13, f76_13, f77_13, f78_13, f4_13, f5_13, f6_13, f79_13, f80_13, f81_13, f82_13, f83_13, f84_13])
      have f80_14 := fun hh => getq q80_14 hh
      have q81_14 : At T14 74 (.bool OC) := by subst hT; exact (by first | (simp only [At, ↓Array.getElem?_setIfInBounds_ne, ne_eq, Nat.reduceEqDiff, not_false_eq_true, q81_13]; done) | simp [At, hs13, f1001_13, f2_13, f3_13, f10_13, f67_13, f68_13, f69_13, f70_13, f71_13, f72_13, f73_13, f74_13, f75_13, f76_13, f77_13, f78_13, f4_13, f5_13, f6_13, f79_13, f80_13, f81_13, f82_13, f83_13, f84_13])
      have f81_14 := fun hh => getq q81_14 hh
      have q82_14 : At T14 75 (.int .i64 P2) := by subst hT; exact (by first | (simp only [At, ↓Array.getElem?_setIfInBounds_ne, ne_eq, Nat.reduceEqDiff, not_false_eq_true, q82_13]; done) | simp [At, hs13, f1001_13, f2_13, f3_13, f10_13, f67_13, f68_13, f69_13, f70_13, f71_13, f72_13, f73_13, f74_13, f75_13, f76_13, f77_13, f78_13, f4_13, f5_13, f6_13, f79_13, f80_13, f81_13, f82_13, f83_13, f84_13])
      have f82_14 := fun hh => getq q82_14 hh
      have q83_14 : At T14 76 (.int .i64 Q2) := by subst hT; exact (by first | (simp only [At, ↓Array.getElem?_setIfInBounds_ne, ne_eq, Nat.reduceEqDiff, not_false_eq_true, q83_13]; done) | simp [At, hs13, f1001_13, f2_13, f3_13, f10_13, f67_13, f68_13, f69_13, f70_13, f71_13, f72_13, f73_13, f74_13, f75_13, f76_13, f77_13, f78_13, f4_13, f5_13, f6_13, f79_13, f80_13, f81_13, f82_13, f83_13, f84_13])
      have f83_14 := fun hh => getq q83_14 hh
      have q84_14 : At T14 77 (.bool OC) := by subst hT; exact (by first | (simp only [At, ↓Array.getElem?_setIfInBounds_ne, ne_eq, Nat.reduceEqDiff, not_false_eq_true, q84_13]; done) | simp [At, hs13, f1001_13, f2_13, f3_13, f10_13, f67_13, f68_13, f69_13, f70_13, f71_13, f72_13, f73_13, f74_13, f75_13, f76_13, f77_13, f78_13, f4_13, f5_13, f6_13, f79_13, f80_13, f81_13, f82_13, f83_13, f84_13])
      have f84_14 := fun hh => getq q84_14 hh
      have q85_14 : At T14 80 (.pointer (some ⟨w127.heap.size, 0, none⟩)) := by subst hT; exact (by first | (simp only [At, ↓Array.getElem?_setIfInBounds_ne, ne_eq, Nat.reduceEqDiff, not_false_eq_true]; done) | simp [At, hs13, f1001_13, f2_13, f3_13, f10_13, f67_13, f68_13, f69_13, f70_13, f71_13, f72_13, f73_13, f74_13, f75_13, f76_13, f77_13, f78_13, f4_13, f5_13, f6_13, f79_13, f80_13, f81_13, f82_13, f83_13, f84_13])
      have f85_14 := fun hh => getq q85_14 hh
      have q86_14 : At T14 81 (.bool OM) := by subst hT; exact (by first | (simp only [At, ↓Array.getElem?_setIfInBounds_ne, ne_eq, Nat.reduceEqDiff, not_false_eq_true]; done) | simp [At, hs13, f1001_13, f2_13, f3_13, f10_13, f67_13, f68_13, f69_13, f70_13, f71_13, f72_13, f73_13, f74_13, f75_13, f76_13, f77_13, f78_13, f4_13, f5_13, f6_13, f79_13, f80_13, f81_13, f82_13, f83_13, f84_13])
      have f86_14 := fun hh => getq q86_14 hh
      have q87_14 : At T14 82 (.pointer (some ⟨w128.heap.size, 0, none⟩)) := by subst hT; exact (by first | (simp only [At, ↓Array.getElem?_setIfInBounds_ne, ne_eq, Nat.reduceEqDiff, not_false_eq_true]; done) | simp [At, hs13, f1001_13, f2_13, f3_13, f10_13, f67_13, f68_13, f69_13, f70_13, f71_13, f72_13, f73_13, f74_13, f75_13, f76_13, f77_13, f78_13, f4_13, f5_13, f6_13, f79_13, f80_13, f81_13, f82_13, f83_13, f84_13])
      have f87_14 := fun hh => getq q87_14 hh
      have q88_14 : At T14 83 (.bool OM) := by subst hT; exact (by first | (simp only [At, ↓Array.getElem?_setIfInBounds_ne, ne_eq, Nat.reduceEqDiff, not_false_eq_true]; done) | simp [At, hs13, f1001_13, f2_13, f3_13, f10_13, f67_13, f68_13, f69_13, f70_13, f71_13, f72_13, f73_13, f74_13, f75_13, f76_13, f77_13, f78_13, f4_13, f5_13, f6_13, f79_13, f80_13, f81_13, f82_13, f83_13, f84_13])
      have f88_14 := fun hh => getq q88_14 hh
      clear hT f84_13 f83_13 f82_13 f81_13 f80_13 f79_13 f6_13 f5_13 f4_13 f78_13 f77_13 f76_13 f75_13 f74_13 f73_13 f72_13 f71_13 f70_13 f69_13 f68_13 f67_13 f10_13 f3_13 f2_13 f1001_13 hs13 q1001_13 q2_13 q3_13 q10_13 q67_13 q68_13 q69_13 q70_13 q71_13 q72_13 q73_13 q74_13 q75_13 q76_13 q77_13 q78_13 q4_13 q5_13 q6_13 q79_13 q80_13 q81_13 q82_13 q83_13 q84_13
      refine with_world (C := fun W => Lay w [(w128.heap.size, n1, n2, n3), (w127.heap.size, n1, n2, n3), (g3, za, zb, zc), (g2, ua, ub, uc)] W) (Lay.c (g := w128.heap.size) (x0 := n1) (x1 := n2) (x2 := n3) (by simp [go_sem]) (by simp [go_sem]) (by simp [go_sem]) (by first | (simp; done) | (simp; omega)) (Lay.after (HFw128.out) (by repeat (first | exact Below.refl _ _ | refine bl_alloc ?_ _ | refine bl_drewN ?_ _ | refine bl_set ?_ (by first | omega | (simp; done) | (simp; omega)) _)))) ?_
      intro w129 hL_
      have HFw129 := Lib.hid hL_
      clear hL_ c00 c01 c02 z0 c10 c11 c12 z1 c20 c21 c22 z2
      obtain ⟨c00, c01, c02, z0, c10, c11, c12, z1, c20, c21, c22, z2, c30, c31, c32, z3, hbl⟩ := Lay.op (HFw129.out)
      clear hbl
      clear HG1 HG2 HH1 HH2 HO1 HO2 HV1 HV2
      refine wp_cut (fun a' wx => ∃ T : Array Value, a' = ⟨T, []⟩ ∧ T.size = 719 ∧ At T 55 (.bool rt) ∧ At T 56 (.int .i64 p) ∧ At T 69 (.int .i64 h) ∧ At T 70 (.int .i64 n) ∧ At T 71 (.int .i64 k) ∧ At T 79 (.int .i64 v) ∧ At T 54 (.pointer (some ⟨g2, 0, none⟩)) ∧ At T 78 (.pointer (some ⟨g3, 0, none⟩)) ∧ At T 57 (.int .i64 R1) ∧ At T 58 (.int .i64 S1) ∧ At T 59 (.bool OB) ∧ At T 63 (.int .i64 X1) ∧ At T 64 (.int .i64 Y1) ∧ At T 72 (.int .i64 P2) ∧ At T 73 (.int .i64 Q2) ∧ At T 74 (.bool OC) ∧ At T 80 (.pointer (some ⟨w127.heap.size, 0, none⟩)) ∧ At T 81 (.bool OM) ∧ At T 605 (.bool false) ∧ Lay w [(w128.heap.size, n1, n2, n3), (w127.heap.size, n1, n2, n3), (g3, za, zb, zc), (g2, ua, ub, uc)] wx) ?rest3 ?first3
      case first3 =>
        intro J K' hJ hK
        clear FB FC FD
        go_wp2_with fail
        refine Met.intro (hJ _ _ ⟨_, rfl, by simp [hs14], by first | (simp only [At, ↓Array.getElem?_setIfInBounds_ne, ne_eq, Nat.reduceEqDiff, not_false_eq_true, q2_14]; done) | simp [At, hs14, f2_14, f3_14, f4_14, f5_14, f6_14, f8_14, f10_14, f16_14, f67_14, f68_14, f69_14, f70_14, f71_14, f72_14, f73_14, f74_14, f75_14, f76_14, f77_14, f78_14, f79_14, f80_14, f81_14, f82_14, f83_14, f84_14, f85_14, f86_14, f87_14, f88_14], by first | (simp only [At, ↓Array.getElem?_setIfInBounds_ne, ne_eq, Nat.reduceEqDiff, not_false_eq_true, q3_14]; done) | simp [At, hs14, f2_14, f3_14, f4_14, f5_14, f6_14, f8_14, f10_14, f16_14, f67_14, f68_14, f69_14, f70_14, f71_14, f72_14, f73_14, f74_14, f75_14, f76_14, f77_14, f78_14, f79_14, f80_14, f81_14, f82_14, f83_14, f84_14, f85_14, f86_14, f87_14, f88_14], by first | (simp only [At, ↓Array.getElem?_setIfInBounds_ne, ne_eq, Nat.reduceEqDiff, not_false_eq_true, q4_14]; done) | simp [At, hs14, f2_14, f3_14, f4_14, f5_14, f6_14, f8_14, f10_14, f16_14, f67_14, f68_14, f69_14, f70_14, f71_14, f72_14, f73_14, f74_14, f75_14, f76_14, f77_14, f78_14, f79_14, f80_14, f81_14, f82_14, f83_14, f84_14, f85_14, f86_14, f87_14, f88_14], by first | (simp only [At, ↓Array.getElem?_setIfInBounds_ne, ne_eq, Nat.reduceEqDiff, not_false_eq_true, q5_14]; done) | simp [At, hs14, f2_14, f3_14, f4_14, f5_14, f6_14, f8_14, f10_14, f16_14, f67_14, f68_14, f69_14, f70_14, f71_14, f72_14, f73_14, f74_14, f75_14, f76_14, f77_14, f78_14, f79_14, f80_14, f81_14, f82_14, f83_14, f84_14, f85_14, f86_14, f87_14, f88_14], by first | (simp only [At, ↓Array.getElem?_setIfInBounds_ne, ne_eq, Nat.reduceEqDiff, not_false_eq_true, q6_14]; done) | simp [At, hs14, f2_14, f3_14, f4_14, f5_14, f6_14, f8_14, f10_14, f16_14, f67_14, f68_14, f69_14, f70_14, f71_14, f72_14, f73_14, f74_14, f75_14, f76_14, f77_14, f78_14, f79_14, f80_14, f81_14, f82_14, f83_14, f84_14, f85_14, f86_14, f87_14, f88_14], by first | (simp only [At, ↓Array.getElem?_setIfInBounds_ne, ne_eq, Nat.reduceEqDiff, not_false_eq_true, q8_14]; done) | simp [At, hs14, f2_14, f3_14, f4_14, f5_14, f6_14, f8_14, f10_14, f16_14, f67_14, f68_14, f69_14, f70_14, f71_14, f72_14, f73_14, f74_14, f75_14, f76_14, f77_14, f78_14, f79_14, f80_14, f81_14, f82_14, f83_14, f84_14, f85_14, f86_14, f87_14, f88_14], by first | (simp only [At, ↓Array.getElem?_setIfInBounds_ne, ne_eq, Nat.reduceEqDiff, not_false_eq_true, q10_14]; done) | simp [At, hs14, f2_14, f3_14, f4_14, f5_14, f6_14, f8_14, f10_14, f16_14, f67_14, f68_14, f69_14, f70_14, f71_14, f72_14, f73_14, f74_14, f75_14, f76_14, f77_14, f78_14, f79_14, f80_14, f81_14, f82_14, f83_14, f84_14, f85_14, f86_14, f87_14, f88_14], by first | (simp only [At, ↓Array.getElem?_setIfInBounds_ne, ne_eq, Nat.reduceEqDiff, not_false_eq_true, q16_14]; done) | simp [At, hs14, f2_14, f3_14, f4_14, f5_14, f6_14, f8_14, f10_14, f16_14, f67_14, f68_14, f69_14, f70_14, f71_14, f72_14, f73_14, f74_14, f75_14, f76_14, f77_14, f78_14, f79_14, f80_14, f81_14, f82_14, f83_14, f84_14, f85_14, f86_14, f87_14, f88_14], by first | (simp only [At, ↓Array.getElem?_setIfInBounds_ne, ne_eq, Nat.reduceEqDiff, not_false_eq_true, q67_14]; done) | simp [At, hs14, f2_14, f3_14, f4_14, f5_14, f6_14, f8_14, f10_14, f16_14, f67_14, f68_14, f69_14, f70_14, f71_14, f72_14, f73_14, f74_14, f75_14, f76_14, f77_14, f78_14, f79_14, f80_14, f81_14, f82_14, f83_14, f84_14, f85_14, f86_14, f87_14, f88_14], by first | (simp only [At, ↓Array.getElem?_setIfInBounds_ne, ne_eq, Nat.reduceEqDiff, not_false_eq_true, q68_14]; done) | simp [At, hs14, f2_14, f3_14, f4_14, f5_14, f6_14, f8_14, f10_14, f16_14, f67_14, f68_14, f69_14, f70_14, f71_14, f72_14, f73_14, f74_14, f75_14, f76_14, f77_14, f78_14, f79_14, f80_14, f81_14, f82_14, f83_14, f84_14, f85_14, f86_14, f87_14, f88_14], by first | (simp only [At, ↓Array.getElem?_setIfInBounds_ne, ne_eq, Nat.reduceEqDiff, not_false_eq_true, q69_14]; done) | simp [At, hs14, f2_14, f3_14, f4_14, f5_14, f6_14, f8_14, f10_14, f16_14, f67_14, f68_14, f69_14, f70_14, f71_14, f72_14, f73_14, f74_14, f75_14, f76_14, f77_14, f78_14, f79_14, f80_14, f81_14, f82_14, f83_14, f84_14, f85_14, f86_14, f87_14, f88_14], by first | (simp only [At, ↓Array.getElem?_setIfInBounds_ne, ne_eq, Nat.reduceEqDiff, not_false_eq_true, q73_14]; done) | simp [At, hs14, f2_14, f3_14, f4_14, f5_14, f6_14, f8_14, f10_14, f16_14, f67_14, f68_14, f69_14, f70_14, f71_14, f72_14, f73_14, f74_14, f75_14, f76_14, f77_14, f78_14, f79_14, f80_14, f81_14, f82_14, f83_14, f84_14, f85_14, f86_14, f87_14, f88_14], by first | (simp only [At, ↓Array.getElem?_setIfInBounds_ne, ne_eq, Nat.reduceEqDiff, not_false_eq_true, q74_14]; done) | simp [At, hs14, f2_14, f3_14, f4_14, f5_14, f6_14, f8_14, f10_14, f16_14, f67_14, f68_14, f69_14, f70_14, f71_14, f72_14, f73_14, f74_14, f75_14, f76_14, f77_14, f78_14, f79_14, f80_14, f81_14, f82_14, f83_14, f84_14, f85_14, f86_14, f87_14, f88_14], by first | (simp only [At, ↓Array.getElem?_setIfInBounds_ne, ne_eq, Nat.reduceEqDiff, not_false_eq_true, q79_14]; done) | simp [At, hs14, f2_14, f3_14, f4_14, f5_14, f6_14, f8_14, f10_14, f16_14, f67_14, f68_14, f69_14, f70_14, f71_14, f72_14, f73_14, f74_14, f75_14, f76_14, f77_14, f78_14, f79_14, f80_14, f81_14, f82_14, f83_14, f84_14, f85_14, f86_14, f87_14, f88_14], by first | (simp only [At, ↓Array.getElem?_setIfInBounds_ne, ne_eq, Nat.reduceEqDiff, not_false_eq_true, q80_14]; done) | simp [At, hs14, f2_14, f3_14, f4_14, f5_14, f6_14, f8_14, f10_14, f16_14, f67_14, f68_14, f69_14, f70_14, f71_14, f72_14, f73_14, f74_14, f75_14, f76_14, f77_14, f78_14, f79_14, f80_14, f81_14, f82_14, f83_14, f84_14, f85_14, f86_14, f87_14, f88_14], by first | (simp only [At, ↓Array.getElem?_setIfInBounds_ne, ne_eq, Nat.reduceEqDiff, not_false_eq_true, q81_14]; done) | simp [At, hs14, f2_14, f3_14, f4_14, f5_14, f6_14, f8_14, f10_14, f16_14, f67_14, f68_14, f69_14, f70_14, f71_14, f72_14, f73_14, f74_14, f75_14, f76_14, f77_14, f78_14, f79_14, f80_14, f81_14, f82_14, f83_14, f84_14, f85_14, f86_14, f87_14, f88_14], by first | (simp only [At, ↓Array.getElem?_setIfInBounds_ne, ne_eq, Nat.reduceEqDiff, not_false_eq_true, q85_14]; done) | simp [At, hs14, f2_14, f3_14, f4_14, f5_14, f6_14, f8_14, f10_14, f16_14, f67_14, f68_14, f69_14, f70_14, f71_14, f72_14, f73_14, f74_14, f75_14, f76_14, f77_14, f78_14, f79_14, f80_14, f81_14, f82_14, f83_14, f84_14, f85_14, f86_14, f87_14, f88_14], by first | (simp only [At, ↓Array.getElem?_setIfInBounds_ne, ne_eq, Nat.reduceEqDiff, not_false_eq_true, q86_14]; done) | simp [At, hs14, f2_14, f3_14, f4_14, f5_14, f6_14, f8_14, f10_14, f16_14, f67_14, f68_14, f69_14, f70_14, f71_14, f72_14, f73_14, f74_14, f75_14, f76_14, f77_14, f78_14, f79_14, f80_14, f81_14, f82_14, f83_14, f84_14, f85_14, f86_14, f87_14, f88_14], by first | (simp only [At, ↓Array.getElem?_setIfInBounds_ne, ne_eq, Nat.reduceEqDiff, not_false_eq_true]; done) | simp [At, hs14, f2_14, f3_14, f4_14, f5_14, f6_14, f8_14, f10_14, f16_14, f67_14, f68_14, f69_14, f70_14, f71_14, f72_14, f73_14, f74_14, f75_14, f76_14, f77_14, f78_14, f79_14, f80_14, f81_14, f82_14, f83_14, f84_14, f85_14, f86_14, f87_14, f88_14], HFw129.out⟩)
      case rest3 =>
        intro a' wc3 hR3
        obtain ⟨T15, rfl, hs15, q2_15, q3_15, q4_15, q5_15, q6_15, q8_15, q10_15, q16_15, q67_15, q68_15, q69_15, q73_15, q74_15, q79_15, q80_15, q81_15, q85_15, q86_15, q588_15, hL_⟩ := hR3
        have f2_15 := fun hh => getq q2_15 hh
        have f3_15 := fun hh => getq q3_15 hh
        have f4_15 := fun hh => getq q4_15 hh
        have f5_15 := fun hh => getq q5_15 hh
        have f6_15 := fun hh => getq q6_15 hh
        have f8_15 := fun hh => getq q8_15 hh
        have f10_15 := fun hh => getq q10_15 hh
        have f16_15 := fun hh => getq q16_15 hh
        have f67_15 := fun hh => getq q67_15 hh
        have f68_15 := fun hh => getq q68_15 hh
        have f69_15 := fun hh => getq q69_15 hh
        have f73_15 := fun hh => getq q73_15 hh
        have f74_15 := fun hh => getq q74_15 hh
        have f79_15 := fun hh => getq q79_15 hh
        have f80_15 := fun hh => getq q80_15 hh
        have f81_15 := fun hh => getq q81_15 hh
        have f85_15 := fun hh => getq q85_15 hh
        have f86_15 := fun hh => getq q86_15 hh
        have f588_15 := fun hh => getq q588_15 hh
        have HFwc3 := Lib.hid hL_
        clear hL_
        obtain ⟨c00, c01, c02, z0, c10, c11, c12, z1, c20, c21, c22, z2, c30, c31, c32, z3, hbl⟩ := Lay.op (HFwc3.out)
        clear hbl
        go_wp2_with fail
        refine wp_cond_f ?_ ?_
        · go_simp
        go_upto_region 46 with fail
        refine reframe fun T16 hT => ?_
        have hs16 : T16.size = 719 := by subst hT; simp [hs15]
        have q2_16 : At T16 55 (.bool rt) := by subst hT; exact (by first | (simp only [At, ↓Array.getElem?_setIfInBounds_ne, ne_eq, Nat.reduceEqDiff, not_false_eq_true, q2_15]; done) | simp [At, hs15, f2_15, f3_15, f4_15, f5_15, f6_15, f8_15, f10_15, f16_15, f67_15, f68_15, f69_15, f73_15, f74_15, f79_15, f80_15, f81_15, f85_15, f86_15, f588_15])
        have f2_16 := fun hh => getq q2_16 hh
        have q3_16 : At T16 56 (.int .i64 p) := by subst hT; exact (by first | (simp only [At, ↓Array.getElem?_setIfInBounds_ne, ne_eq, Nat.reduceEqDiff, not_false_eq_true, q3_15]; done) | simp [At, hs15, f2_15, f3_15, f4_15, f5_15, f6_15, f8_15, f10_15, f16_15, f67_15, f68_15, f69_15, f73_15, f74_15, f79_15, f80_15, f81_15, f85_15, f86_15, f588_15])
        have f3_16 := fun hh => getq q3_16 hh
        have q4_16 : At T16 69 (.int .i64 h) := by subst hT; exact (by first | (simp only [At, ↓Array.getElem?_setIfInBounds_ne, ne_eq, Nat.reduceEqDiff, not_false_eq_true, q4_15]; done) | simp [At, hs15, f2_15, f3_15, f4_15, f5_15, f6_15, f8_15, f10_15, f16_15, f67_15, f68_15, f69_15, f73_15, f74_15, f79_15, f80_15, f81_15, f85_15, f86_15, f588_15])
        have f4_16 := fun hh => getq q4_16 hh
        have q5_16 : At T16 70 (.int .i64 n) := by subst hT; exact (by first | (simp only [At, ↓Array.getElem?_setIfInBounds_ne, ne_eq, Nat.reduceEqDiff, not_false_eq_true, q5_15]; done) | simp [At, hs15, f2_15, f3_15, f4_15, f5_15, f6_15, f8_15, f10_15, f16_15, f67_15, f68_15, f69_15, f73_15, f74_15, f79_15, f80_15, f81_15, f85_15, f86_15, f588_15])
        have f5_16 := fun hh => getq q5_16 hh
        have q6_16 : At T16 71 (.int .i64 k) := by subst hT; exact (by first | (simp only [At, ↓Array.getElem?_setIfInBounds_ne, ne_eq, Nat.reduceEqDiff, not_false_eq_true, q6_15]; done) | simp [At, hs15, f2_15, f3_15, f4_15, f5_15, f6_15, f8_15, f10_15, f16_15, f67_15, f68_15, f69_15, f73_15, f74_15, f79_15, f80_15, f81_15, f85_15, f86_15, f588_15])
        have f6_16 := fun hh => getq q6_16 hh
        have q8_16 : At T16 79 (.int .i64 v) := by subst hT; exact (by first | (simp only [At, ↓Array.getElem?_setIfInBounds_ne, ne_eq, Nat.reduceEqDiff, not_false_eq_true, q8_15]; done) | simp [At, hs15, f2_15, f3_15, f4_15, f5_15, f6_15, f8_15, f10_15, f16_15, f67_15, f68_15, f69_15, f73_15, f74_15, f79_15, f80_15, f81_15, f85_15, f86_15, f588_15])
        have f8_16 := fun hh => getq q8_16 hh
        have q10_16 : At T16 54 (.pointer (some ⟨g2, 0, none⟩)) := by subst hT; exact (by first | (simp only [At, ↓Array.getElem?_setIfInBounds_ne, ne_eq, Nat.reduceEqDiff, not_false_eq_true, q10_15]; done) | simp [At, hs15, f2_15, f3_15, f4_15, f5_15, f6_15, f8_15, f10_15, f16_15, f67_15, f68_15, f69_15, f73_15, f74_15, f79_15, f80_15, f81_15, f85_15, f86_15, f588_15])
        have f10_16 := fun hh => getq q10_16 hh
        have q16_16 : At T16 78 (.pointer (some ⟨g3, 0, none⟩)) := by subst hT; exact (by first | (simp only [At, ↓Array.getElem?_setIfInBounds_ne, ne_eq, Nat.reduceEqDiff, not_false_eq_true, q16_15]; done) | simp [At, hs15, f2_15, f3_15, f4_15, f5_15, f6_15, f8_15, f10_15, f16_15, f67_15, f68_15, f69_15, f73_15, f74_15, f79_15, f80_15, f81_15, f85_15, f86_15, f588_15])
        have f16_16 := fun hh => getq q16_16 hh
        have q67_16 : At T16 57 (.int .i64 R1) := by subst hT; exact (by first | (simp only [At, ↓Array.getElem?_setIfInBounds_ne, ne_eq, Nat.reduceEqDiff, not_false_eq_true, q67_15]; done) | simp [At, hs15, f2_15, f3_15, f4_15, f5_15, f6_15, f8_15, f10_15, f16_15, f67_15, f68_15, f69_15, f73_15, f74_15, f79_15, f80_15, f81_15, f85_15, f86_15, f588_15])
        have f67_16 := fun hh => getq q67_16 hh
        have q68_16 : At T16 58 (.int .i64 S1) := by subst hT; exact (by first | (simp only [At, ↓Array.getElem?_setIfInBounds_ne, ne_eq, Nat.reduceEqDiff, not_false_eq_true, q68_15]; done) | simp [At, hs15, f2_15, f3_15, f4_15, f5_15, f6_15, f8_15, f10_15, f16_15, f67_15, f68_15, f69_15, f73_15, f74_15, f79_15, f80_15, f81_15, f85_15, f86_15, f588_15])
        have f68_16 := fun hh => getq q68_16 hh
        have q69_16 : At T16 59 (.bool OB) := by subst hT; exact (by first | (simp only [At, ↓Array.getElem?_setIfInBounds_ne, ne_eq, Nat.reduceEqDiff, not_false_eq_true, q69_15]; done) | simp [At, hs15, f2_15, f3_15, f4_15, f5_15, f6_15, f8_15, f10_15, f16_15, f67_15, f68_15, f69_15, f73_15, f74_15, f79_15, f80_15, f81_15, f85_15, f86_15, f588_15])
        have f69_16 := fun hh => getq q69_16 hh
        have q73_16 : At T16 63 (.int .i64 X1) := by subst hT; exact (by first | (simp only [At, ↓Array.getElem?_setIfInBounds_ne, ne_eq, Nat.reduceEqDiff, not_false_eq_true, q73_15]; done) | simp [At, hs15, f2_15, f3_15, f4_15, f5_15, f6_15, f8_15, f10_15, f16_15, f67_15, f68_15, f69_15, f73_15, f74_15, f79_15, f80_15, f81_15, f85_15, f86_15, f588_15])
        have f73_16 := fun hh => getq q73_16 hh
        have q74_16 : At T16 64 (.int .i64 Y1) := by subst hT; exact (by first | (simp only [At, ↓Array.getElem?_setIfInBounds_ne, ne_eq, Nat.reduceEqDiff, not_false_eq_true, q74_15]; done) | simp [At, hs15, f2_15, f3_15, f4_15, f5_15, f6_15, f8_15, f10_15, f16_15, f67_15, f68_15, f69_15, f73_15, f74_15, f79_15, f80_15, f81_15, f85_15, f86_15, f588_15])
        have f74_16 := fun hh => getq q74_16 hh
        have q79_16 : At T16 72 (.int .i64 P2) := by subst hT; exact (by first | (simp only [At, ↓Array.getElem?_setIfInBounds_ne, ne_eq, Nat.reduceEqDiff, not_false_eq_true, q79_15]; done) | simp [At, hs15, f2_15, f3_15, f4_15, f5_15, f6_15, f8_15, f10_15, f16_15, f67_15, f68_15, f69_15, f73_15, f74_15, f79_15, f80_15, f81_15, f85_15, f86_15, f588_15])
        have f79_16 := fun hh => getq q79_16 hh
        have q80_16 : At T16 73 (.int .i64 Q2) := by subst hT; exact (by first | (simp only [At, ↓Array.getElem?_setIfInBounds_ne, ne_eq, Nat.reduceEqDiff, not_false_eq_true, q80_15]; done) | simp [At, hs15, f2_15, f3_15, f4_15, f5_15, f6_15, f8_15, f10_15, f16_15, f67_15, f68_15, f69_15, f73_15, f74_15, f79_15, f80_15, f81_15, f85_15, f86_15, f588_15])
        have f80_16 := fun hh => getq q80_16 hh
        have q81_16 : At T16 74 (.bool OC) := by subst hT; exact (by first | (simp only [At, ↓Array.getElem?_setIfInBounds_ne, ne_eq, Nat.reduceEqDiff, not_false_eq_true, q81_15]; done) | simp [At, hs15, f2_15, f3_15, f4_15, f5_15, f6_15, f8_15, f10_15, f16_15, f67_15, f68_15, f69_15, f73_15, f74_15, f79_15, f80_15, f81_15, f85_15, f86_15, f588_15])
        have f81_16 := fun hh => getq q81_16 hh
        have q85_16 : At T16 80 (.pointer (some ⟨w127.heap.size, 0, none⟩)) := by subst hT; exact (by first | (simp only [At, ↓Array.getElem?_setIfInBounds_ne, ne_eq, Nat.reduceEqDiff, not_false_eq_true, q85_15]; done) | simp [At, hs15, f2_15, f3_15, f4_15, f5_15, f6_15, f8_15, f10_15, f16_15, f67_15, f68_15, f69_15, f73_15, f74_15, f79_15, f80_15, f81_15, f85_15, f86_15, f588_15])
        have f85_16 := fun hh => getq q85_16 hh
        have q86_16 : At T16 81 (.bool OM) := by subst hT; exact (by first | (simp only [At, ↓Array.getElem?_setIfInBounds_ne, ne_eq, Nat.reduceEqDiff, not_false_eq_true, q86_15]; done) | simp [At, hs15, f2_15, f3_15, f4_15, f5_15, f6_15, f8_15, f10_15, f16_15, f67_15, f68_15, f69_15, f73_15, f74_15, f79_15, f80_15, f81_15, f85_15, f86_15, f588_15])
        have f86_16 := fun hh => getq q86_16 hh
        have q588_16 : At T16 605 (.bool false) := by subst hT; exact (by first | (simp only [At, ↓Array.getElem?_setIfInBounds_ne, ne_eq, Nat.reduceEqDiff, not_false_eq_true, q588_15]; done) | simp [At, hs15, f2_15, f3_15, f4_15, f5_15, f6_15, f8_15, f10_15, f16_15, f67_15, f68_15, f69_15, f73_15, f74_15, f79_15, f80_15, f81_15, f85_15, f86_15, f588_15])
        have f588_16 := fun hh => getq q588_16 hh
        clear hT f588_15 f86_15 f85_15 f81_15 f80_15 f79_15 f74_15 f73_15 f69_15 f68_15 f67_15 f16_15 f10_15 f8_15 f6_15 f5_15 f4_15 f3_15 f2_15 hs15 q2_15 q3_15 q4_15 q5_15 q6_15 q8_15 q10_15 q16_15 q67_15 q68_15 q69_15 q73_15 q74_15 q79_15 q80_15 q81_15 q85_15 q86_15 q588_15
        go_wp2_with fail
        refine wp_cut (fun a' wx => ∃ T : Array Value, a' = ⟨T, []⟩ ∧ T.size = 719 ∧ At T 69 (.int .i64 h) ∧ At T 70 (.int .i64 n) ∧ At T 71 (.int .i64 k) ∧ At T 79 (.int .i64 v) ∧ At T 54 (.pointer (some ⟨g2, 0, none⟩)) ∧ At T 78 (.pointer (some ⟨g3, 0, none⟩)) ∧ At T 72 (.int .i64 P2) ∧ At T 73 (.int .i64 Q2) ∧ At T 74 (.bool OC) ∧ At T 80 (.pointer (some ⟨w127.heap.size, 0, none⟩)) ∧ At T 81 (.bool OM) ∧ Lay w [(w128.heap.size, n1, n2, n3), (w127.heap.size, n1, n2, n3), (g3, za, zb, zc), (g2, ua, ub, uc)] wx) ?rest4 ?first4
        case first4 =>
          intro J K' hJ hK
          clear FC FD
          cases OB
          · go_wp2_with fail
            refine wp_cond_f ?_ ?_
            · go_simp
            go_wp2_with fail
            refine Met.intro (hJ _ _ ⟨_, rfl, by simp [hs16], by first | (simp only [At, ↓Array.getElem?_setIfInBounds_ne, ne_eq, Nat.reduceEqDiff, not_false_eq_true, q4_16]; done) | simp [At, hs16, f2_16, f3_16, f4_16, f5_16, f6_16, f8_16, f10_16, f16_16, f67_16, f68_16, f69_16, f73_16, f74_16, f79_16, f80_16, f81_16, f85_16, f86_16, f588_16], by first | (simp only [At, ↓Array.getElem?_setIfInBounds_ne, ne_eq, Nat.reduceEqDiff, not_false_eq_true, q5_16]; done) | simp [At, hs16, f2_16, f3_16, f4_16, f5_16, f6_16, f8_16, f10_16, f16_16, f67_16, f68_16, f69_16, f73_16, f74_16, f79_16, f80_16, f81_16, f85_16, f86_16, f588_16], by first | (simp only [At, ↓Array.getElem?_setIfInBounds_ne, ne_eq, Nat.reduceEqDiff, not_false_eq_true, q6_16]; done) | simp [At, hs16, f2_16, f3_16, f4_16, f5_16, f6_16, f8_16, f10_16, f16_16, f67_16, f68_16, f69_16, f73_16, f74_16, f79_16, f80_16, f81_16, f85_16, f86_16, f588_16], by first | (simp only [At, ↓Array.getElem?_setIfInBounds_ne, ne_eq, Nat.reduceEqDiff, not_false_eq_true, q8_16]; done) | simp [At, hs16, f2_16, f3_16, f4_16, f5_16, f6_16, f8_16, f10_16, f16_16, f67_16, f68_16, f69_16, f73_16, f74_16, f79_16, f80_16, f81_16, f85_16, f86_16, f588_16], by first | (simp only [At, ↓Array.getElem?_setIfInBounds_ne, ne_eq, Nat.reduceEqDiff, not_false_eq_true, q10_16]; done) | simp [At, hs16, f2_16, f3_16, f4_16, f5_16, f6_16, f8_16, f10_16, f16_16, f67_16, f68_16, f69_16, f73_16, f74_16, f79_16, f80_16, f81_16, f85_16, f86_16, f588_16], by first | (simp only [At, ↓Array.getElem?_setIfInBounds_ne, ne_eq, Nat.reduceEqDiff, not_false_eq_true, q16_16]; done) | simp [At, hs16, f2_16, f3_16, f4_16, f5_16, f6_16, f8_16, f10_16, f16_16, f67_16, f68_16, f69_16, f73_16, f74_16, f79_16, f80_16, f81_16, f85_16, f86_16, f588_16], by first | (simp only [At, ↓Array.getElem?_setIfInBounds_ne, ne_eq, Nat.reduceEqDiff, not_false_eq_true, q79_16]; done) | simp [At, hs16, f2_16, f3_16, f4_16, f5_16, f6_16, f8_16, f10_16, f16_16, f67_16, f68_16, f69_16, f73_16, f74_16, f79_16, f80_16, f81_16, f85_16, f86_16, f588_16], by first | (simp only [At, ↓Array.getElem?_setIfInBounds_ne, ne_eq, Nat.reduceEqDiff, not_false_eq_true, q80_16]; done) | simp [At, hs16, f2_16, f3_16, f4_16, f5_16, f6_16, f8_16, f10_16, f16_16, f67_16, f68_16, f69_16, f73_16, f74_16, f79_16, f80_16, f81_16, f85_16, f86_16, f588_16], by first | (simp only [At, ↓Array.getElem?_setIfInBounds_ne, ne_eq, Nat.reduceEqDiff, not_false_eq_true, q81_16]; done) | simp [At, hs16, f2_16, f3_16, f4_16, f5_16, f6_16, f8_16, f10_16, f16_16, f67_16, f68_16, f69_16, f73_16, f74_16, f79_16, f80_16, f81_16, f85_16, f86_16, f588_16], by first | (simp only [At, ↓Array.getElem?_setIfInBounds_ne, ne_eq, Nat.reduceEqDiff, not_false_eq_true, q85_16]; done) | simp [At, hs16, f2_16, f3_16, f4_16, f5_16, f6_16, f8_16, f10_16, f16_16, f67_16, f68_16, f69_16, f73_16, f74_16, f79_16, f80_16, f81_16, f85_16, f86_16, f588_16], by first | (simp only [At, ↓Array.getElem?_setIfInBounds_ne, ne_eq, Nat.reduceEqDiff, not_false_eq_true, q86_16]; done) | simp [At, hs16, f2_16, f3_16, f4_16, f5_16, f6_16, f8_16, f10_16, f16_16, f67_16, f68_16, f69_16, f73_16, f74_16, f79_16, f80_16, f81_16, f85_16, f86_16, f588_16], HFwc3.out⟩)
          · obtain ⟨HP, ⟨l1, l2, l3⟩, ⟨r1, r2, p1, p2, x1, x2⟩, s1, s2, q1, q2, y1, y2⟩ := FB.out rfl
            clear FB
            go_wp2_with fail
            refine wp_cond_t ?_ ?_
            · go_simp
            go_wp2_with fail
            refine ((HP _).out).mono ?_
            rintro e w130 ⟨rfl, hb_⟩
            have HFw130 := Lib.hid (Lay.after (w := w) (B := [(w128.heap.size, n1, n2, n3), (w127.heap.size, n1, n2, n3), (g3, za, zb, zc), (g2, ua, ub, uc)]) (Lay.after (HFwc3.out) (by repeat (first | exact Below.refl _ _ | refine bl_alloc ?_ _ | refine bl_drewN ?_ _ | refine bl_set ?_ (by first | omega | (simp; done) | (simp; omega)) _))) hb_)
            clear hb_ c00 c01 c02 z0 c10 c11 c12 z1 c20 c21 c22 z2 c30 c31 c32 z3
            obtain ⟨c00, c01, c02, z0, c10, c11, c12, z1, c20, c21, c22, z2, c30, c31, c32, z3, hbl⟩ := Lay.op (HFw130.out)
            clear hbl
            go_upto_region 48 with fail
            refine reframe fun T17 hT => ?_
            have hs17 : T17.size = 719 := by subst hT; simp [hs16]
            have q4_17 : At T17 69 (.int .i64 h) := by subst hT; exact (by first | (simp only [At, ↓Array.getElem?_setIfInBounds_ne, ne_eq, Nat.reduceEqDiff, not_false_eq_true, q4_16]; done) | simp [At, hs16, f2_16, f3_16, f4_16, f5_16, f6_16, f8_16, f10_16, f16_16, f67_16, f68_16, f69_16, f73_16, f74_16, f79_16, f80_16, f81_16, f85_16, f86_16, f588_16])
            have f4_17 := fun hh => getq q4_17 hh
            have q5_17 : At T17 70 (.int .i64 n) := by subst hT; exact (by first | (simp only [At, ↓Array.getElem?_setIfInBounds_ne, ne_eq, Nat.reduceEqDiff, not_false_eq_true, q5_16]; done) | simp [At, hs16, f2_16, f3_16, f4_16, f5_16, f6_16, f8_16, f10_16, f16_16, f67_16, f68_16, f69_16, f73_16, f74_16, f79_16, f80_16, f81_16, f85_16, f86_16, f588_16])
            have f5_17 := fun hh => getq q5_17 hh
            have q6_17 : At T17 71 (.int .i64 k) := by subst hT; exact (by first | (simp only [At, ↓Array.getElem?_setIfInBounds_ne, ne_eq, Nat.reduceEqDiff, not_false_eq_true, q6_16]; done) | simp [At, hs16, f2_16, f3_16, f4_16, f5_16, f6_16, f8_16, f10_16, f16_16, f67_16, f68_16, f69_16, f73_16, f74_16, f79_16, f80_16, f81_16, f85_16, f86_16, f588_16])
            have f6_17 := fun hh => getq q6_17 hh
            have q8_17 : At T17 79 (.int .i64 v) := by subst hT; exact (by first | (simp only [At, ↓Array.getElem?_setIfInBounds_ne, ne_eq, Nat.reduceEqDiff, not_false_eq_true, q8_16]; done) | simp [At, hs16, f2_16, f3_16, f4_16, f5_16, f6_16, f8_16, f10_16, f16_16, f67_16, f68_16, f69_16, f73_16, f74_16, f79_16, f80_16, f81_16, f85_16, f86_16, f588_16])
            have f8_17 := fun hh => getq q8_17 hh
            have q10_17 : At T17 54 (.pointer (some ⟨g2, 0, none⟩)) := by subst hT; exact (by first | (simp only [At, ↓Array.getElem?_setIfInBounds_ne, ne_eq, Nat.reduceEqDiff, not_false_eq_true, q10_16]; done) | simp [At, hs16, f2_16, f3_16, f4_16, f5_16, f6_16, f8_16, f10_16, f16_16, f67_16, f68_16, f69_16, f73_16, f74_16, f79_16, f80_16, f81_16, f85_16, f86_16, f588_16])
            have f10_17 := fun hh => getq q10_17 hh
            have q16_17 : At T17 78 (.pointer (some ⟨g3, 0, none⟩)) := by subst hT; exact (by first | (simp only [At, ↓Array.getElem?_setIfInBounds_ne, ne_eq, Nat.reduceEqDiff, not_false_eq_true, q16_16]; done) | simp [At, hs16, f2_16, f3_16, f4_16, f5_16, f6_16, f8_16, f10_16, f16_16, f67_16, f68_16, f69_16, f73_16, f74_16, f79_16, f80_16, f81_16, f85_16, f86_16, f588_16])
            have f16_17 := fun hh => getq q16_17 hh
            have q79_17 : At T17 72 (.int .i64 P2) := by subst hT; exact (by first | (simp only [At, ↓Array.getElem?_setIfInBounds_ne, ne_eq, Nat.reduceEqDiff, not_false_eq_true, q79_16]; done) | simp [At, hs16, f2_16, f3_16, f4_16, f5_16, f6_16, f8_16, f10_16, f16_16, f67_16, f68_16, f69_16, f73_16, f74_16, f79_16, f80_16, f81_16, f85_16, f86_16, f588_16])
            have f79_17 := fun hh => getq q79_17 hh
            have q80_17 : At T17 73 (.int .i64 Q2) := by subst hT; exact (by first | (simp only [At, ↓Array.getElem?_setIfInBounds_ne, ne_eq, Nat.reduceEqDiff, not_false_eq_true, q80_16]; done) | simp [At, hs16, f2_16, f3_16, f4_16, f5_16, f6_16, f8_16, f10_16, f16_16, f67_16, f68_16, f69_16, f73_16, f74_16, f79_16, f80_16, f81_16, f85_16, f86_16, f588_16])
            have f80_17 := fun hh => getq q80_17 hh
            have q81_17 : At T17 74 (.bool OC) := by subst hT; exact (by first | (simp only [At, ↓Array.getElem?_setIfInBounds_ne, ne_eq, Nat.reduceEqDiff, not_false_eq_true, q81_16]; done) | simp [At, hs16, f2_16, f3_16, f4_16, f5_16, f6_16, f8_16, f10_16, f16_16, f67_16, f68_16, f69_16, f73_16, f74_16, f79_16, f80_16, f81_16, f85_16, f86_16, f588_16])
            have f81_17 := fun hh => getq q81_17 hh
            have q85_17 : At T17 80 (.pointer (some ⟨w127.heap.size, 0, none⟩)) := by subst hT; exact (by first | (simp only [At, ↓Array.getElem?_setIfInBounds_ne, ne_eq, Nat.reduceEqDiff, not_false_eq_true, q85_16]; done) | simp [At, hs16, f2_16, f3_16, f4_16, f5_16, f6_16, f8_16, f10_16, f16_16, f67_16, f68_16, f69_16, f73_16, f74_16, f79_16, f80_16, f81_16, f85_16, f86_16, f588_16])
            have f85_17 := fun hh => getq q85_17 hh
            have q86_17 : At T17 81 (.bool OM) := by subst hT; exact (by first | (simp only [At, ↓Array.getElem?_setIfInBounds_ne, ne_eq, Nat.reduceEqDiff, not_false_eq_true, q86_16]; done) | simp [At, hs16, f2_16, f3_16, f4_16, f5_16, f6_16, f8_16, f10_16, f16_16, f67_16, f68_16, f69_16, f73_16, f74_16, f79_16, f80_16, f81_16, f85_16, f86_16, f588_16])
            have f86_17 := fun hh => getq q86_17 hh
            have q67_17 : At T17 57 (.int .i64 R1) := by subst hT; exact (by first | (simp only [At, ↓Array.getElem?_setIfInBounds_ne, ne_eq, Nat.reduceEqDiff, not_false_eq_true, q67_16]; done) | simp [At, hs16, f2_16, f3_16, f4_16, f5_16, f6_16, f8_16, f10_16, f16_16, f67_16, f68_16, f69_16, f73_16, f74_16, f79_16, f80_16, f81_16, f85_16, f86_16, f588_16])
            have f67_17 := fun hh => getq q67_17 hh
            have q68_17 : At T17 58 (.int .i64 S1) := by subst hT; exact (by first | (simp only [At, ↓Array.getElem?_setIfInBounds_ne, ne_eq, Nat.reduceEqDiff, not_false_eq_true, q68_16]; done) | simp [At, hs16, f2_16, f3_16, f4_16, f5_16, f6_16, f8_16, f10_16, f16_16, f67_16, f68_16, f69_16, f73_16, f74_16, f79_16, f80_16, f81_16, f85_16, f86_16, f588_16])
            have f68_17 := fun hh => getq q68_17 hh
            have q73_17 : At T17 63 (.int .i64 X1) := by subst hT; exact (by first | (simp only [At, ↓Array.getElem?_setIfInBounds_ne, ne_eq, Nat.reduceEqDiff, not_false_eq_true, q73_16]; done) | simp [At, hs16, f2_16, f3_16, f4_16, f5_16, f6_16, f8_16, f10_16, f16_16, f67_16, f68_16, f69_16, f73_16, f74_16, f79_16, f80_16, f81_16, f85_16, f86_16, f588_16])
            have f73_17 := fun hh => getq q73_17 hh
            have q74_17 : At T17 64 (.int .i64 Y1) := by subst hT; exact (by first | (simp only [At, ↓Array.getElem?_setIfInBounds_ne, ne_eq, Nat.reduceEqDiff, not_false_eq_true, q74_16]; done) | simp [At, hs16, f2_16, f3_16, f4_16, f5_16, f6_16, f8_16, f10_16, f16_16, f67_16, f68_16, f69_16, f73_16, f74_16, f79_16, f80_16, f81_16, f85_16, f86_16, f588_16])
            have f74_17 := fun hh => getq q74_17 hh
            have q89_17 : At T17 84 (.int .i64 P1) := by subst hT; exact (by first | (simp only [At, ↓Array.getElem?_setIfInBounds_ne, ne_eq, Nat.reduceEqDiff, not_false_eq_true]; done) | simp [At, hs16, f2_16, f3_16, f4_16, f5_16, f6_16, f8_16, f10_16, f16_16, f67_16, f68_16, f69_16, f73_16, f74_16, f79_16, f80_16, f81_16, f85_16, f86_16, f588_16])
            have f89_17 := fun hh => getq q89_17 hh
            have q90_17 : At T17 85 (.int .i64 Q1) := by subst hT; exact (by first | (simp only [At, ↓Array.getElem?_setIfInBounds_ne, ne_eq, Nat.reduceEqDiff, not_false_eq_true]; done) | simp [At, hs16, f2_16, f3_16, f4_16, f5_16, f6_16, f8_16, f10_16, f16_16, f67_16, f68_16, f69_16, f73_16, f74_16, f79_16, f80_16, f81_16, f85_16, f86_16, f588_16])
            have f90_17 := fun hh => getq q90_17 hh
            have q91_17 : At T17 86 (.bool true) := by subst hT; exact (by first | (simp only [At, ↓Array.getElem?_setIfInBounds_ne, ne_eq, Nat.reduceEqDiff, not_false_eq_true]; done) | simp [At, hs16, f2_16, f3_16, f4_16, f5_16, f6_16, f8_16, f10_16, f16_16, f67_16, f68_16, f69_16, f73_16, f74_16, f79_16, f80_16, f81_16, f85_16, f86_16, f588_16])
            have f91_17 := fun hh => getq q91_17 hh
            clear hT f588_16 f86_16 f85_16 f81_16 f80_16 f79_16 f74_16 f73_16 f69_16 f68_16 f67_16 f16_16 f10_16 f8_16 f6_16 f5_16 f4_16 f3_16 f2_16 hs16 q2_16 q3_16 q4_16 q5_16 q6_16 q8_16 q10_16 q16_16 q67_16 q68_16 q69_16 q73_16 q74_16 q79_16 q80_16 q81_16 q85_16 q86_16 q588_16
            obtain ⟨e1, e1'⟩ := mul_bdx (a := X1) (b := S1) (m := 1000000) (k := 1000) (by omega) (by omega) (by omega) (by omega)
            obtain ⟨e2, e2'⟩ := mul_bdx (a := R1) (b := Y1) (m := 1000000) (k := 1000) (by omega) (by omega) (by omega) (by omega)
            obtain ⟨e3, e3'⟩ := mul_bdx (a := X1) (b := Q1) (m := 1000000) (k := 1000) (by omega) (by omega) (by omega) (by omega)
            obtain ⟨e4, e4'⟩ := mul_bdx (a := P1) (b := Y1) (m := 1000000) (k := 1000) (by omega) (by omega) (by omega) (by omega)
            have w1_ : IntKind.i64.wrap (X1 * S1) = X1 * S1 := IntWalk.i64_in _ ⟨by omega, by omega⟩
            have w2_ : IntKind.i64.wrap (R1 * Y1) = R1 * Y1 := IntWalk.i64_in _ ⟨by omega, by omega⟩
            have w3_ : IntKind.i64.wrap (X1 * Q1) = X1 * Q1 := IntWalk.i64_in _ ⟨by omega, by omega⟩
            have w4_ : IntKind.i64.wrap (P1 * Y1) = P1 * Y1 := IntWalk.i64_in _ ⟨by omega, by omega⟩
            have h1_ : ¬ X1 * S1 < R1 * Y1 := by omega
            have h2_ : ¬ X1 * Q1 < P1 * Y1 := by omega
            clear l1 l2 e1 e1' e2 e2' e3 e3' e4 e4'
            by_cases hx : X1 * S1 = R1 * Y1
            · have hxb : (X1 * S1 == R1 * Y1) = true := by rw [hx]; exact beq_self_eq_true _
              skip
              go_wp2_with fail
              refine wp_cond_f ?_ ?_
              · go_simp
              go_wp2_with fail
              refine Met.intro (hJ _ _ ⟨_, rfl, by simp [hs17], by first | (simp only [At, ↓Array.getElem?_setIfInBounds_ne, ne_eq, Nat.reduceEqDiff, not_false_eq_true, q4_17]; done) | simp [At, hs17, f4_17, f5_17, f6_17, f8_17, f10_17, f16_17, f79_17, f80_17, f81_17, f85_17, f86_17, f67_17, f68_17, f73_17, f74_17, f89_17, f90_17, f91_17], by first | (simp only [At, ↓Array.getElem?_setIfInBounds_ne, ne_eq, Nat.reduceEqDiff, not_false_eq_true, q5_17]; done) | simp [At, hs17, f4_17, f5_17, f6_17, f8_17, f10_17, f16_17, f79_17, f80_17, f81_17, f85_17, f86_17, f67_17, f68_17, f73_17, f74_17, f89_17, f90_17, f91_17], by first | (simp only [At, ↓Array.getElem?_setIfInBounds_ne, ne_eq, Nat.reduceEqDiff, not_false_eq_true, q6_17]; done) | simp [At, hs17, f4_17, f5_17, f6_17, f8_17, f10_17, f16_17, f79_17, f80_17, f81_17, f85_17, f86_17, f67_17, f68_17, f73_17, f74_17, f89_17, f90_17, f91_17], by first | (simp only [At, ↓Array.getElem?_setIfInBounds_ne, ne_eq, Nat.reduceEqDiff, not_false_eq_true, q8_17]; done) | simp [At, hs17, f4_17, f5_17, f6_17, f8_17, f10_17, f16_17, f79_17, f80_17, f81_17, f85_17, f86_17, f67_17, f68_17, f73_17, f74_17, f89_17, f90_17, f91_17], by first | (simp only [At, ↓Array.getElem?_setIfInBounds_ne, ne_eq, Nat.reduceEqDiff, not_false_eq_true, q10_17]; done) | simp [At, hs17, f4_17, f5_17, f6_17, f8_17, f10_17, f16_17, f79_17, f80_17, f81_17, f85_17, f86_17, f67_17, f68_17, f73_17, f74_17, f89_17, f90_17, f91_17], by first | (simp only [At, ↓Array.getElem?_setIfInBounds_ne, ne_eq, Nat.reduceEqDiff, not_false_eq_true, q16_17]; done) | simp [At, hs17, f4_17, f5_17, f6_17, f8_17, f10_17, f16_17, f79_17, f80_17, f81_17, f85_17, f86_17, f67_17, f68_17, f73_17, f74_17, f89_17, f90_17, f91_17], by first | (simp only [At, ↓Array.getElem?_setIfInBounds_ne, ne_eq, Nat.reduceEqDiff, not_false_eq_true, q79_17]; done) | simp [At, hs17, f4_17, f5_17, f6_17, f8_17, f10_17, f16_17, f79_17, f80_17, f81_17, f85_17, f86_17, f67_17, f68_17, f73_17, f74_17, f89_17, f90_17, f91_17], by first | (simp only [At, ↓Array.getElem?_setIfInBounds_ne, ne_eq, Nat.reduceEqDiff, not_false_eq_true, q80_17]; done) | simp [At, hs17, f4_17, f5_17, f6_17, f8_17, f10_17, f16_17, f79_17, f80_17, f81_17, f85_17, f86_17, f67_17, f68_17, f73_17, f74_17, f89_17, f90_17, f91_17], by first | (simp only [At, ↓Array.getElem?_setIfInBounds_ne, ne_eq, Nat.reduceEqDiff, not_false_eq_true, q81_17]; done) | simp [At, hs17, f4_17, f5_17, f6_17, f8_17, f10_17, f16_17, f79_17, f80_17, f81_17, f85_17, f86_17, f67_17, f68_17, f73_17, f74_17, f89_17, f90_17, f91_17], by first | (simp only [At, ↓Array.getElem?_setIfInBounds_ne, ne_eq, Nat.reduceEqDiff, not_false_eq_true, q85_17]; done) | simp [At, hs17, f4_17, f5_17, f6_17, f8_17, f10_17, f16_17, f79_17, f80_17, f81_17, f85_17, f86_17, f67_17, f68_17, f73_17, f74_17, f89_17, f90_17, f91_17], by first | (simp only [At, ↓Array.getElem?_setIfInBounds_ne, ne_eq, Nat.reduceEqDiff, not_false_eq_true, q86_17]; done) | simp [At, hs17, f4_17, f5_17, f6_17, f8_17, f10_17, f16_17, f79_17, f80_17, f81_17, f85_17, f86_17, f67_17, f68_17, f73_17, f74_17, f89_17, f90_17, f91_17], HFw130.out⟩)
            · have hxb : (X1 * S1 == R1 * Y1) = false := beq_eq_false_iff_ne.2 hx
              have hy : X1 * Q1 = P1 * Y1 := l3.resolve_left hx
              go_wp2_with fail
              refine wp_cond_f ?_ ?_
              · go_simp
              go_wp2_with fail
              refine Met.intro (hJ _ _ ⟨_, rfl, by simp [hs17], by first | (simp only [At, ↓Array.getElem?_setIfInBounds_ne, ne_eq, Nat.reduceEqDiff, not_false_eq_true, q4_17]; done) | simp [At, hs17, f4_17, f5_17, f6_17, f8_17, f10_17, f16_17, f79_17, f80_17, f81_17, f85_17, f86_17, f67_17, f68_17, f73_17, f74_17, f89_17, f90_17, f91_17], by first | (simp only [At, ↓Array.getElem?_setIfInBounds_ne, ne_eq, Nat.reduceEqDiff, not_false_eq_true, q5_17]; done) | simp [At, hs17, f4_17, f5_17, f6_17, f8_17, f10_17, f16_17, f79_17, f80_17, f81_17, f85_17, f86_17, f67_17, f68_17, f73_17, f74_17, f89_17, f90_17, f91_17], by first | (simp only [At, ↓Array.getElem?_setIfInBounds_ne, ne_eq, Nat.reduceEqDiff, not_false_eq_true, q6_17]; done) | simp [At, hs17, f4_17, f5_17, f6_17, f8_17, f10_17, f16_17, f79_17, f80_17, f81_17, f85_17, f86_17, f67_17, f68_17, f73_17, f74_17, f89_17, f90_17, f91_17], by first | (simp only [At, ↓Array.getElem?_setIfInBounds_ne, ne_eq, Nat.reduceEqDiff, not_false_eq_true, q8_17]; done) | simp [At, hs17, f4_17, f5_17, f6_17, f8_17, f10_17, f16_17, f79_17, f80_17, f81_17, f85_17, f86_17, f67_17, f68_17, f73_17, f74_17, f89_17, f90_17, f91_17], by first | (simp only [At, ↓Array.getElem?_setIfInBounds_ne, ne_eq, Nat.reduceEqDiff, not_false_eq_true, q10_17]; done) | simp [At, hs17, f4_17, f5_17, f6_17, f8_17, f10_17, f16_17, f79_17, f80_17, f81_17, f85_17, f86_17, f67_17, f68_17, f73_17, f74_17, f89_17, f90_17, f91_17], by first | (simp only [At, ↓Array.getElem?_setIfInBounds_ne, ne_eq, Nat.reduceEqDiff, not_false_eq_true, q16_17]; done) | simp [At, hs17, f4_17, f5_17, f6_17, f8_17, f10_17, f16_17, f79_17, f80_17, f81_17, f85_17, f86_17, f67_17, f68_17, f73_17, f74_17, f89_17, f90_17, f91_17], by first | (simp only [At, ↓Array.getElem?_setIfInBounds_ne, ne_eq, Nat.reduceEqDiff, not_false_eq_true, q79_17]; done) | simp [At, hs17, f4_17, f5_17, f6_17, f8_17, f10_17, f16_17, f79_17, f80_17, f81_17, f85_17, f86_17, f67_17, f68_17, f73_17, f74_17, f89_17, f90_17, f91_17], by first | (simp only [At, ↓Array.getElem?_setIfInBounds_ne, ne_eq, Nat.reduceEqDiff, not_false_eq_true, q80_17]; done) | simp [At, hs17, f4_17, f5_17, f6_17, f8_17, f10_17, f16_17, f79_17, f80_17, f81_17, f85_17, f86_17, f67_17, f68_17, f73_17, f74_17, f89_17, f90_17, f91_17], by first | (simp only [At, ↓Array.getElem?_setIfInBounds_ne, ne_eq, Nat.reduceEqDiff, not_false_eq_true, q81_17]; done) | simp [At, hs17, f4_17, f5_17, f6_17, f8_17, f10_17, f16_17, f79_17, f80_17, f81_17, f85_17, f86_17, f67_17, f68_17, f73_17, f74_17, f89_17, f90_17, f91_17], by first | (simp only [At, ↓Array.getElem?_setIfInBounds_ne, ne_eq, Nat.reduceEqDiff, not_false_eq_true, q85_17]; done) | simp [At, hs17, f4_17, f5_17, f6_17, f8_17, f10_17, f16_17, f79_17, f80_17, f81_17, f85_17, f86_17, f67_17, f68_17, f73_17, f74_17, f89_17, f90_17, f91_17], by first | (simp only [At, ↓Array.getElem?_setIfInBounds_ne, ne_eq, Nat.reduceEqDiff, not_false_eq_true, q86_17]; done) | simp [At, hs17, f4_17, f5_17, f6_17, f8_17, f10_17, f16_17, f79_17, f80_17, f81_17, f85_17, f86_17, f67_17, f68_17, f73_17, f74_17, f89_17, f90_17, f91_17], HFw130.out⟩)
        case rest4 =>
          intro a' wc4 hR4
          obtain ⟨T18, rfl, hs18, q4_18, q5_18, q6_18, q8_18, q10_18, q16_18, q79_18, q80_18, q81_18, q85_18, q86_18, hL_⟩ := hR4
          have f4_18 := fun hh => getq q4_18 hh
          have f5_18 := fun hh => getq q5_18 hh
          have f6_18 := fun hh => getq q6_18 hh
          have f8_18 := fun hh => getq q8_18 hh
          have f10_18 := fun hh => getq q10_18 hh
          have f16_18 := fun hh => getq q16_18 hh
          have f79_18 := fun hh => getq q79_18 hh
          have f80_18 := fun hh => getq q80_18 hh
          have f81_18 := fun hh => getq q81_18 hh
          have f85_18 := fun hh => getq q85_18 hh
          have f86_18 := fun hh => getq q86_18 hh
          have HFwc4 := Lib.hid hL_
          clear hL_
          obtain ⟨c00, c01, c02, z0, c10, c11, c12, z1, c20, c21, c22, z2, c30, c31, c32, z3, hbl⟩ := Lay.op (HFwc4.out)
          clear hbl
          clear FB
          go_wp2_with fail
          refine wp_cut (fun a' wx => ∃ T : Array Value, a' = ⟨T, []⟩ ∧ T.size = 719 ∧ At T 79 (.int .i64 v) ∧ At T 78 (.pointer (some ⟨g3, 0, none⟩)) ∧ At T 80 (.pointer (some ⟨w127.heap.size, 0, none⟩)) ∧ At T 81 (.bool OM) ∧ Lay w [(w128.heap.size, n1, n2, n3), (w127.heap.size, n1, n2, n3), (g3, za, zb, zc), (g2, ua, ub, uc)] wx) ?rest5 ?first5
          case first5 =>
            intro J K' hJ hK
            clear FD
            cases OC
            · go_wp2_with fail
              refine wp_cond_f ?_ ?_
              · go_simp
              go_wp2_with fail
              refine Met.intro (hJ _ _ ⟨_, rfl, by simp [hs18], by first | (simp only [At, ↓Array.getElem?_setIfInBounds_ne, ne_eq, Nat.reduceEqDiff, not_false_eq_true, q8_18]; done) | simp [At, hs18, f4_18, f5_18, f6_18, f8_18, f10_18, f16_18, f79_18, f80_18, f81_18, f85_18, f86_18], by first | (simp only [At, ↓Array.getElem?_setIfInBounds_ne, ne_eq, Nat.reduceEqDiff, not_false_eq_true, q16_18]; done) | simp [At, hs18, f4_18, f5_18, f6_18, f8_18, f10_18, f16_18, f79_18, f80_18, f81_18, f85_18, f86_18], by first | (simp only [At, ↓Array.getElem?_setIfInBounds_ne, ne_eq, Nat.reduceEqDiff, not_false_eq_true, q85_18]; done) | simp [At, hs18, f4_18, f5_18, f6_18, f8_18, f10_18, f16_18, f79_18, f80_18, f81_18, f85_18, f86_18], by first | (simp only [At, ↓Array.getElem?_setIfInBounds_ne, ne_eq, Nat.reduceEqDiff, not_false_eq_true, q86_18]; done) | simp [At, hs18, f4_18, f5_18, f6_18, f8_18, f10_18, f16_18, f79_18, f80_18, f81_18, f85_18, f86_18], HFwc4.out⟩)
            · obtain ⟨HJ, hE, ⟨h1, h2, i1, i2, k1, k2⟩, p1, p2, q1, q2⟩ := FC.out rfl
              clear FC
              have EE := Lib.hid hE
              clear hE
              go_wp2_with fail
              refine wp_cond_t ?_ ?_
              · go_simp
              go_upto_region 51 with fail
              refine reframe fun T19 hT => ?_
              have hs19 : T19.size = 719 := by subst hT; simp [hs18]
              have q4_19 : At T19 69 (.int .i64 h) := by subst hT; exact (by first | (simp only [At, ↓Array.getElem?_setIfInBounds_ne, ne_eq, Nat.reduceEqDiff, not_false_eq_true, q4_18]; done) | simp [At, hs18, f4_18, f5_18, f6_18, f8_18, f10_18, f16_18, f79_18, f80_18, f81_18, f85_18, f86_18])
              have f4_19 := fun hh => getq q4_19 hh
              have q5_19 : At T19 70 (.int .i64 n) := by subst hT; exact (by first | (simp only [At, ↓Array.getElem?_setIfInBounds_ne, ne_eq, Nat.reduceEqDiff, not_false_eq_true, q5_18]; done) | simp [At, hs18, f4_18, f5_18, f6_18, f8_18, f10_18, f16_18, f79_18, f80_18, f81_18, f85_18, f86_18])
              have f5_19 := fun hh => getq q5_19 hh
              have q6_19 : At T19 71 (.int .i64 k) := by subst hT; exact (by first | (simp only [At, ↓Array.getElem?_setIfInBounds_ne, ne_eq, Nat.reduceEqDiff, not_false_eq_true, q6_18]; done) | simp [At, hs18, f4_18, f5_18, f6_18, f8_18, f10_18, f16_18, f79_18, f80_18, f81_18, f85_18, f86_18])
              have f6_19 := fun hh => getq q6_19 hh
              have q8_19 : At T19 79 (.int .i64 v) := by subst hT; exact (by first | (simp only [At, ↓Array.getElem?_setIfInBounds_ne, ne_eq, Nat.reduceEqDiff, not_false_eq_true, q8_18]; done) | simp [At, hs18, f4_18, f5_18, f6_18, f8_18, f10_18, f16_18, f79_18, f80_18, f81_18, f85_18, f86_18])
              have f8_19 := fun hh => getq q8_19 hh
              have q10_19 : At T19 54 (.pointer (some ⟨g2, 0, none⟩)) := by subst hT; exact (by first | (simp only [At, ↓Array.getElem?_setIfInBounds_ne, ne_eq, Nat.reduceEqDiff, not_false_eq_true, q10_18]; done) | simp [At, hs18, f4_18, f5_18, f6_18, f8_18, f10_18, f16_18, f79_18, f80_18, f81_18, f85_18, f86_18])
              have f10_19 := fun hh => getq q10_19 hh
              have q16_19 : At T19 78 (.pointer (some ⟨g3, 0, none⟩)) := by subst hT; exact (by first | (simp only [At, ↓Array.getElem?_setIfInBounds_ne, ne_eq, Nat.reduceEqDiff, not_false_eq_true, q16_18]; done) | simp [At, hs18, f4_18, f5_18, f6_18, f8_18, f10_18, f16_18, f79_18, f80_18, f81_18, f85_18, f86_18])
              have f16_19 := fun hh => getq q16_19 hh
              have q79_19 : At T19 72 (.int .i64 P2) := by subst hT; exact (by first | (simp only [At, ↓Array.getElem?_setIfInBounds_ne, ne_eq, Nat.reduceEqDiff, not_false_eq_true, q79_18]; done) | simp [At, hs18, f4_18, f5_18, f6_18, f8_18, f10_18, f16_18, f79_18, f80_18, f81_18, f85_18, f86_18])
              have f79_19 := fun hh => getq q79_19 hh
              have q80_19 : At T19 73 (.int .i64 Q2) := by subst hT; exact (by first | (simp only [At, ↓Array.getElem?_setIfInBounds_ne, ne_eq, Nat.reduceEqDiff, not_false_eq_true, q80_18]; done) | simp [At, hs18, f4_18, f5_18, f6_18, f8_18, f10_18, f16_18, f79_18, f80_18, f81_18, f85_18, f86_18])
              have f80_19 := fun hh => getq q80_19 hh
              have q85_19 : At T19 80 (.pointer (some ⟨w127.heap.size, 0, none⟩)) := by subst hT; exact (by first | (simp only [At, ↓Array.getElem?_setIfInBounds_ne, ne_eq, Nat.reduceEqDiff, not_false_eq_true, q85_18]; done) | simp [At, hs18, f4_18, f5_18, f6_18, f8_18, f10_18, f16_18, f79_18, f80_18, f81_18, f85_18, f86_18])
              have f85_19 := fun hh => getq q85_19 hh
              have q86_19 : At T19 81 (.bool OM) := by subst hT; exact (by first | (simp only [At, ↓Array.getElem?_setIfInBounds_ne, ne_eq, Nat.reduceEqDiff, not_false_eq_true, q86_18]; done) | simp [At, hs18, f4_18, f5_18, f6_18, f8_18, f10_18, f16_18, f79_18, f80_18, f81_18, f85_18, f86_18])
              have f86_19 := fun hh => getq q86_19 hh
              clear hT f86_18 f85_18 f81_18 f80_18 f79_18 f16_18 f10_18 f8_18 f6_18 f5_18 f4_18 hs18 q4_18 q5_18 q6_18 q8_18 q10_18 q16_18 q79_18 q80_18 q81_18 q85_18 q86_18
              obtain ⟨e1, e1'⟩ := mul_bdx (a := h) (b := Q2) (m := 1000) (k := 1000000) (by omega) (by omega) (by omega) (by omega)
              obtain ⟨e2, e2'⟩ := mul_bdx (a := n) (b := P2 + h * Q2) (m := 1000) (k := 1001000000) (by omega) (by omega) (by omega) (by omega)
              obtain ⟨e3, e3'⟩ := mul_bdx (a := k) (b := h) (m := 1000) (k := 1000) (by omega) (by omega) (by omega) (by omega)
              have w1_ : IntKind.i64.wrap (h * Q2) = h * Q2 := IntWalk.i64_in _ ⟨by omega, by omega⟩
              have w2_ : IntKind.i64.wrap (P2 + h * Q2) = P2 + h * Q2 := IntWalk.i64_in _ ⟨by omega, by omega⟩
              have w3_ : IntKind.i64.wrap (n * (P2 + h * Q2)) = n * (P2 + h * Q2) := IntWalk.i64_in _ ⟨by omega, by omega⟩
              have w4_ : IntKind.i64.wrap (k * h) = k * h := IntWalk.i64_in _ ⟨by omega, by omega⟩
              have w5_ : IntKind.i64.wrap (k * h * P2) = n * (P2 + h * Q2) := by rw [← EE.out]; exact w3_
              clear e1 e1' e2 e2' e3 e3'
              go_wp2_with fail
              refine ((HJ _).out).mono ?_
              rintro e w' ⟨rfl, nA, rfl⟩
              go_wp2_with fail
              refine wp_cond_f ?_ ?_
              · go_simp
              go_wp2_with fail
              refine Met.intro (hJ _ _ ⟨_, rfl, by simp [hs19], by first | (simp only [At, ↓Array.getElem?_setIfInBounds_ne, ne_eq, Nat.reduceEqDiff, not_false_eq_true, q8_19]; done) | simp [At, hs19, f4_19, f5_19, f6_19, f8_19, f10_19, f16_19, f79_19, f80_19, f85_19, f86_19], by first | (simp only [At, ↓Array.getElem?_setIfInBounds_ne, ne_eq, Nat.reduceEqDiff, not_false_eq_true, q16_19]; done) | simp [At, hs19, f4_19, f5_19, f6_19, f8_19, f10_19, f16_19, f79_19, f80_19, f85_19, f86_19], by first | (simp only [At, ↓Array.getElem?_setIfInBounds_ne, ne_eq, Nat.reduceEqDiff, not_false_eq_true, q85_19]; done) | simp [At, hs19, f4_19, f5_19, f6_19, f8_19, f10_19, f16_19, f79_19, f80_19, f85_19, f86_19], by first | (simp only [At, ↓Array.getElem?_setIfInBounds_ne, ne_eq, Nat.reduceEqDiff, not_false_eq_true, q86_19]; done) | simp [At, hs19, f4_19, f5_19, f6_19, f8_19, f10_19, f16_19, f79_19, f80_19, f85_19, f86_19], (by repeat (first | exact HFwc4.out | refine Lay.drewN ?_ _))⟩)
          case rest5 =>
            intro a' wc5 hR5
            obtain ⟨T20, rfl, hs20, q8_20, q16_20, q85_20, q86_20, hL_⟩ := hR5
            have f8_20 := fun hh => getq q8_20 hh
            have f16_20 := fun hh => getq q16_20 hh
            have f85_20 := fun hh => getq q85_20 hh
            have f86_20 := fun hh => getq q86_20 hh
            have HFwc5 := Lib.hid hL_
            clear hL_
            obtain ⟨c00, c01, c02, z0, c10, c11, c12, z1, c20, c21, c22, z2, c30, c31, c32, z3, hbl⟩ := Lay.op (HFwc5.out)
            clear hbl
            clear FC
            go_wp2_with fail
            cases OM
            · go_wp2_with fail
              refine wp_cond_f ?_ ?_
              · go_simp
              go_upto_region 59 with fail
              refine reframe fun T21 hT => ?_
              have hs21 : T21.size = 719 := by subst hT; simp [hs20]
              clear hT f86_20 f85_20 f16_20 f8_20 hs20 q8_20 q16_20 q85_20 q86_20
              go_wp2
              go_ret
              exact ⟨by simp [hs21], Lay.bl (HFwc5.out)⟩
            · obtain ⟨HQ1, HQ2, HQ3, v1, v2⟩ := FD.out rfl
              clear FD
              have w1_ : IntKind.i64.wrap (-v) = -v := IntWalk.i64_in _ ⟨by omega, by omega⟩
              go_wp2_with fail
              refine wp_cond_t ?_ ?_
              · go_simp
              go_wp2_with fail
              refine ((HQ1 _).out).mono ?_
              rintro e w131 ⟨rfl, hb_⟩
              have HFw131 := Lib.hid (Lay.after (w := w) (B := [(w128.heap.size, n1, n2, n3), (w127.heap.size, n1, n2, n3), (g3, za, zb, zc), (g2, ua, ub, uc)]) (Lay.after (HFwc5.out) (by repeat (first | exact Below.refl _ _ | refine bl_alloc ?_ _ | refine bl_drewN ?_ _ | refine bl_set ?_ (by first | omega | (simp; done) | (simp; omega)) _))) hb_)
              clear hb_ c00 c01 c02 z0 c10 c11 c12 z1 c20 c21 c22 z2 c30 c31 c32 z3
              obtain ⟨c00, c01, c02, z0, c10, c11, c12, z1, c20, c21, c22, z2, c30, c31, c32, z3, hbl⟩ := Lay.op (HFw131.out)
              clear hbl
              go_wp2_with fail
              refine ((HQ2 _).out).mono ?_
              rintro e w132 ⟨rfl, hb_⟩
              have HFw132 := Lib.hid (Lay.after (w := w) (B := [(w128.heap.size, n1, n2, n3), (w127.heap.size, n1, n2, n3), (g3, za, zb, zc), (g2, ua, ub, uc)]) (Lay.after (HFw131.out) (by repeat (first | exact Below.refl _ _ | refine bl_alloc ?_ _ | refine bl_drewN ?_ _ | refine bl_set ?_ (by first | omega | (simp; done) | (simp; omega)) _))) hb_)
              clear hb_ c00 c01 c02 z0 c10 c11 c12 z1 c20 c21 c22 z2 c30 c31 c32 z3
              obtain ⟨c00, c01, c02, z0, c10, c11, c12, z1, c20, c21, c22, z2, c30, c31, c32, z3, hbl⟩ := Lay.op (HFw132.out)
              clear hbl
              go_wp2_with fail
              refine ((HQ3 _).out).mono ?_
              rintro e w133 ⟨rfl, hb_⟩
              have HFw133 := Lib.hid (Lay.after (w := w) (B := [(w128.heap.size, n1, n2, n3), (w127.heap.size, n1, n2, n3), (g3, za, zb, zc), (g2, ua, ub, uc)]) (Lay.after (HFw132.out) (by repeat (first | exact Below.refl _ _ | refine bl_alloc ?_ _ | refine bl_drewN ?_ _ | refine bl_set ?_ (by first | omega | (simp; done) | (simp; omega)) _))) hb_)
              clear hb_ c00 c01 c02 z0 c10 c11 c12 z1 c20 c21 c22 z2 c30 c31 c32 z3
              obtain ⟨c00, c01, c02, z0, c10, c11, c12, z1, c20, c21, c22, z2, c30, c31, c32, z3, hbl⟩ := Lay.op (HFw133.out)
              clear hbl
              go_upto_region 57 with fail
              refine reframe fun T22 hT => ?_
              have hs22 : T22.size = 719 := by subst hT; simp [hs20]
              have q16_22 : At T22 78 (.pointer (some ⟨g3, 0, none⟩)) := by subst hT; exact (by first | (simp only [At, ↓Array.getElem?_setIfInBounds_ne, ne_eq, Nat.reduceEqDiff, not_false_eq_true, q16_20]; done) | simp [At, hs20, f8_20, f16_20, f85_20, f86_20])
              have f16_22 := fun hh => getq q16_22 hh
              have q92_22 : At T22 87 (.int .i64 P3) := by subst hT; exact (by first | (simp only [At, ↓Array.getElem?_setIfInBounds_ne, ne_eq, Nat.reduceEqDiff, not_false_eq_true]; done) | simp [At, hs20, f8_20, f16_20, f85_20, f86_20])
              have f92_22 := fun hh => getq q92_22 hh
              have q93_22 : At T22 88 (.int .i64 Q3) := by subst hT; exact (by first | (simp only [At, ↓Array.getElem?_setIfInBounds_ne, ne_eq, Nat.reduceEqDiff, not_false_eq_true]; done) | simp [At, hs20, f8_20, f16_20, f85_20, f86_20])
              have f93_22 := fun hh => getq q93_22 hh
              have q94_22 : At T22 89 (.bool true) := by subst hT; exact (by first | (simp only [At, ↓Array.getElem?_setIfInBounds_ne, ne_eq, Nat.reduceEqDiff, not_false_eq_true]; done) | simp [At, hs20, f8_20, f16_20, f85_20, f86_20])
              have f94_22 := fun hh => getq q94_22 hh
              have q95_22 : At T22 90 (.int .i64 P3) := by subst hT; exact (by first | (simp only [At, ↓Array.getElem?_setIfInBounds_ne, ne_eq, Nat.reduceEqDiff, not_false_eq_true]; done) | simp [At, hs20, f8_20, f16_20, f85_20, f86_20])
              have f95_22 := fun hh => getq q95_22 hh
              have q96_22 : At T22 91 (.int .i64 Q3) := by subst hT; exact (by first | (simp only [At, ↓Array.getElem?_setIfInBounds_ne, ne_eq, Nat.reduceEqDiff, not_false_eq_true]; done) | simp [At, hs20, f8_20, f16_20, f85_20, f86_20])
              have f96_22 := fun hh => getq q96_22 hh
              have q97_22 : At T22 92 (.bool true) := by subst hT; exact (by first | (simp only [At, ↓Array.getElem?_setIfInBounds_ne, ne_eq, Nat.reduceEqDiff, not_false_eq_true]; done) | simp [At, hs20, f8_20, f16_20, f85_20, f86_20])
              have f97_22 := fun hh => getq q97_22 hh
              have q98_22 : At T22 93 (.pointer (some ⟨w133.heap.size, 0, none⟩)) := by subst hT; exact (by first | (simp only [At, ↓Array.getElem?_setIfInBounds_ne, ne_eq, Nat.reduceEqDiff, not_false_eq_true]; done) | simp [At, hs20, f8_20, f16_20, f85_20, f86_20])
              have f98_22 := fun hh => getq q98_22 hh
              have q99_22 : At T22 94 (.bool true) := by subst hT; exact (by first | (simp only [At, ↓Array.getElem?_setIfInBounds_ne, ne_eq, Nat.reduceEqDiff, not_false_eq_true]; done) | simp [At, hs20, f8_20, f16_20, f85_20, f86_20])
              have f99_22 := fun hh => getq q99_22 hh
              clear hT f86_20 f85_20 f16_20 f8_20 hs20 q8_20 q16_20 q85_20 q86_20
              refine with_world (C := fun W => Lay w [(w133.heap.size, za, zb, zc), (w128.heap.size, n1, n2, n3), (w127.heap.size, n1, n2, n3), (g3, za, zb, zc), (g2, ua, ub, uc)] W) (Lay.c (g := w133.heap.size) (x0 := za) (x1 := zb) (x2 := zc) (by simp [go_sem]) (by simp [go_sem]) (by simp [go_sem]) (by first | (simp; done) | (simp; omega)) (Lay.after (HFw133.out) (by repeat (first | exact Below.refl _ _ | refine bl_alloc ?_ _ | refine bl_drewN ?_ _ | refine bl_set ?_ (by first | omega | (simp; done) | (simp; omega)) _)))) ?_
              intro w134 hL_
              have HFw134 := Lib.hid hL_
              clear hL_ c00 c01 c02 z0 c10 c11 c12 z1 c20 c21 c22 z2 c30 c31 c32 z3
              obtain ⟨c00, c01, c02, z0, c10, c11, c12, z1, c20, c21, c22, z2, c30, c31, c32, z3, c40, c41, c42, z4, hbl⟩ := Lay.op (HFw134.out)
              clear hbl
              go_wp2_with fail
              refine wp_cond_f ?_ ?_
              · go_simp
              go_upto_region 59 with fail
              refine reframe fun T23 hT => ?_
              have hs23 : T23.size = 719 := by subst hT; simp [hs22]
              clear hT f99_22 f98_22 f97_22 f96_22 f95_22 f94_22 f93_22 f92_22 f16_22 hs22 q16_22 q92_22 q93_22 q94_22 q95_22 q96_22 q97_22 q98_22 q99_22
              go_wp2
              go_ret
              exact ⟨by simp [hs23], Lay.bl (HFw134.out)⟩
end Go.Proofs.YtohlbnfncllhoaaDoor

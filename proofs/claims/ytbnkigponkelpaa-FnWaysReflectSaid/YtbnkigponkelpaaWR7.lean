/- The law FnWaysReflect: its walk. -/
import Derived.Test.YtbnkigponkelpaaWRB
import Derived.Test.YtbnkigponkelpaaWRL
import Derived.Test.YtbnkigponkelpaaWRV
namespace Go.Proofs.Ytbnkigponkelpaa
open Go.RowKit
open FnWaysReflect
set_option linter.unusedVariables false
set_option linter.unusedSimpArgs false
attribute [local irreducible] Array.setIfInBounds
def OneB (e : Ending) : Prop := ∃ r : Bool, e = .returned (.bool r)
set_option maxHeartbeats 1000000 in
theorem big_any (v u : Value) (w : World) (h : Bytes w w.heap.size v) (k : Bytes w w.heap.size u) :
    Calls Try.prog 5 #[v, u] w fun e w' => OneB e ∧ w = w' := by
  obtain ⟨a, n, c, rfl, hn⟩ := h.shape
  obtain ⟨a', n', c', rfl, hn'⟩ := k.shape
  clear h k
  go_enter Try.func5, Try.ntmps5
  go_wp2
  all_goals (go_ret; exact ⟨⟨_, rfl⟩, rfl⟩)
set_option maxHeartbeats 8000000 in
set_option maxRecDepth 100000 in
theorem reflect_drawn (Y0 Y1 : Value) (w : World) (h0 : Bytes w w.heap.size Y0) (h1 : Bytes w w.heap.size Y1) :
    Calls Try.prog 3 #[Y0, Y1] w fun e w' => e = .returned (.bool true) ∧ Below w.heap.size w w' := by
  go_enter Try.func3, Try.ntmps3
  refine reframe fun T1 hT => ?_
  have hs1 : T1.size = 636 := by rw [hT]; rfl
  have f1000_1 : ∀ hh : 0 < T1.size, T1[0]'hh = Y0 := by subst hT; intro hh; rfl
  have f1001_1 : ∀ hh : 1 < T1.size, T1[1]'hh = Y1 := by subst hT; intro hh; rfl
  have q1000_1 := putq (by rw [hs1]; decide) f1000_1
  have q1001_1 := putq (by rw [hs1]; decide) f1001_1
  clear hT
  have H0 := Lib.hid h0
  have H1 := Lib.hid h1
  clear h0 h1
  go_wp2_with fail
  refine (big_any _ _ _ H0.out H1.out).mono ?_
  rintro e w' ⟨⟨r, rfl⟩, rfl⟩
  go_wp2_with fail
  cases r
  case true =>
    refine wp_cond_t ?_ ?_
    · (go_simp <;> omega)
    go_wp2
    go_ret
    exact ⟨by simp [hs1], Below.refl _ _⟩
  go_wp2_with fail
  refine wp_cond_f ?_ ?_
  · go_simp
  go_wp2_with fail
  refine (DrawTouchOf_any _ _ H0.out).mono ?_
  rintro e w1 ⟨a, b, c, d, rfl, hb1⟩
  have HB1 := Lib.hid hb1
  clear hb1
  obtain ⟨N, D, M, Q, OK, WH, KA, KB, HA1, HA2, HM1, HM2, HT1, HT2, HW1, HW2, HIA1, HIA2, HIB, hOK_, FT_⟩ := pack_T a b c d
  have FT := Lib.hid FT_
  have hOK := Lib.hid hOK_
  clear FT_ hOK_
  go_wp2_with fail
  refine ((HA1 _).out).mono ?_
  rintro e w101 ⟨rfl, hb_⟩
  have HFw101 := Lib.hid (Lay.after (w := w) (B := [(w1.heap.size, a, b), (w1.heap.size + 1, c, d)]) (Lay.c (g := w1.heap.size) (x := a) (y := b) (by simp [go_sem]) (by simp [go_sem]) (by first | (simp; done) | (simp; omega)) (Lay.c (g := w1.heap.size + 1) (x := c) (y := d) (by simp [go_sem]) (by simp [go_sem]) (by first | (simp; done) | (simp; omega)) ((show Lay w [] _ from (by repeat (first | exact HB1.out | refine bl_alloc ?_ _ | refine bl_set ?_ (by first | omega | (simp; done) | (simp; omega)) _)))))) hb_)
  clear hb_
  obtain ⟨c00, c01, z0, c10, c11, z1, hbl⟩ := Lay.op (HFw101.out)
  clear hbl
  generalize w1.heap.size = g at *
  go_wp2_with fail
  refine ((HA2 _).out).mono ?_
  rintro e w102 ⟨rfl, hb_⟩
  have HFw102 := Lib.hid (Lay.after (w := w) (B := [(g, a, b), (g + 1, c, d)]) (Lay.after (HFw101.out) (by repeat (first | exact Below.refl _ _ | refine bl_alloc ?_ _ | refine bl_drewN ?_ _ | refine bl_set ?_ (by first | omega | (simp; done) | (simp; omega)) _))) hb_)
  clear hb_ c00 c01 z0 c10 c11 z1
  obtain ⟨c00, c01, z0, c10, c11, z1, hbl⟩ := Lay.op (HFw102.out)
  clear hbl
  go_wp2_with fail
  refine ((HM1 _).out).mono ?_
  rintro e w103 ⟨rfl, hb_⟩
  have HFw103 := Lib.hid (Lay.after (w := w) (B := [(g, a, b), (g + 1, c, d)]) (Lay.after (HFw102.out) (by repeat (first | exact Below.refl _ _ | refine bl_alloc ?_ _ | refine bl_drewN ?_ _ | refine bl_set ?_ (by first | omega | (simp; done) | (simp; omega)) _))) hb_)
  clear hb_ c00 c01 z0 c10 c11 z1
  obtain ⟨c00, c01, z0, c10, c11, z1, hbl⟩ := Lay.op (HFw103.out)
  clear hbl
  go_wp2_with fail
  refine ((HM2 _).out).mono ?_
  rintro e w104 ⟨rfl, hb_⟩
  have HFw104 := Lib.hid (Lay.after (w := w) (B := [(g, a, b), (g + 1, c, d)]) (Lay.after (HFw103.out) (by repeat (first | exact Below.refl _ _ | refine bl_alloc ?_ _ | refine bl_drewN ?_ _ | refine bl_set ?_ (by first | omega | (simp; done) | (simp; omega)) _))) hb_)
  clear hb_ c00 c01 z0 c10 c11 z1
  obtain ⟨c00, c01, z0, c10, c11, z1, hbl⟩ := Lay.op (HFw104.out)
  clear hbl
  go_upto_region 8 with fail
  refine reframe fun T2 hT => ?_
  have hs2 : T2.size = 636 := by subst hT; simp [hs1]
  have q7_2 : At T2 5 (.pointer (some ⟨g, 0, none⟩)) := by subst hT; exact (by first | (simp only [At, ↓Array.getElem?_setIfInBounds_ne, ne_eq, Nat.reduceEqDiff, not_false_eq_true]; done) | simp [At, hs1, f1000_1, f1001_1])
  have f7_2 := fun hh => getq q7_2 hh
  have q8_2 : At T2 6 (.pointer (some ⟨g + 1, 0, none⟩)) := by subst hT; exact (by first | (simp only [At, ↓Array.getElem?_setIfInBounds_ne, ne_eq, Nat.reduceEqDiff, not_false_eq_true]; done) | simp [At, hs1, f1000_1, f1001_1])
  have f8_2 := fun hh => getq q8_2 hh
  have q1001_2 : At T2 1 (Y1) := by subst hT; exact (by first | (simp only [At, ↓Array.getElem?_setIfInBounds_ne, ne_eq, Nat.reduceEqDiff, not_false_eq_true, q1001_1]; done) | simp [At, hs1, f1000_1, f1001_1])
  have f1001_2 := fun hh => getq q1001_2 hh
  have q15_2 : At T2 7 (.int .i64 N) := by subst hT; exact (by first | (simp only [At, ↓Array.getElem?_setIfInBounds_ne, ne_eq, Nat.reduceEqDiff, not_false_eq_true]; done) | simp [At, hs1, f1000_1, f1001_1])
  have f15_2 := fun hh => getq q15_2 hh
  have q16_2 : At T2 8 (.int .i64 D) := by subst hT; exact (by first | (simp only [At, ↓Array.getElem?_setIfInBounds_ne, ne_eq, Nat.reduceEqDiff, not_false_eq_true]; done) | simp [At, hs1, f1000_1, f1001_1])
  have f16_2 := fun hh => getq q16_2 hh
  have q17_2 : At T2 9 (.bool OK) := by subst hT; exact (by first | (simp only [At, ↓Array.getElem?_setIfInBounds_ne, ne_eq, Nat.reduceEqDiff, not_false_eq_true]; done) | simp [At, hs1, f1000_1, f1001_1])
  have f17_2 := fun hh => getq q17_2 hh
  have q18_2 : At T2 10 (.int .i64 N) := by subst hT; exact (by first | (simp only [At, ↓Array.getElem?_setIfInBounds_ne, ne_eq, Nat.reduceEqDiff, not_false_eq_true]; done) | simp [At, hs1, f1000_1, f1001_1])
  have f18_2 := fun hh => getq q18_2 hh
  have q19_2 : At T2 11 (.int .i64 D) := by subst hT; exact (by first | (simp only [At, ↓Array.getElem?_setIfInBounds_ne, ne_eq, Nat.reduceEqDiff, not_false_eq_true]; done) | simp [At, hs1, f1000_1, f1001_1])
  have f19_2 := fun hh => getq q19_2 hh
  have q20_2 : At T2 12 (.bool OK) := by subst hT; exact (by first | (simp only [At, ↓Array.getElem?_setIfInBounds_ne, ne_eq, Nat.reduceEqDiff, not_false_eq_true]; done) | simp [At, hs1, f1000_1, f1001_1])
  have f20_2 := fun hh => getq q20_2 hh
  have q21_2 : At T2 13 (.int .i64 M) := by subst hT; exact (by first | (simp only [At, ↓Array.getElem?_setIfInBounds_ne, ne_eq, Nat.reduceEqDiff, not_false_eq_true]; done) | simp [At, hs1, f1000_1, f1001_1])
  have f21_2 := fun hh => getq q21_2 hh
  have q22_2 : At T2 14 (.bool OK) := by subst hT; exact (by first | (simp only [At, ↓Array.getElem?_setIfInBounds_ne, ne_eq, Nat.reduceEqDiff, not_false_eq_true]; done) | simp [At, hs1, f1000_1, f1001_1])
  have f22_2 := fun hh => getq q22_2 hh
  have q23_2 : At T2 15 (.int .i64 M) := by subst hT; exact (by first | (simp only [At, ↓Array.getElem?_setIfInBounds_ne, ne_eq, Nat.reduceEqDiff, not_false_eq_true]; done) | simp [At, hs1, f1000_1, f1001_1])
  have f23_2 := fun hh => getq q23_2 hh
  have q24_2 : At T2 16 (.bool OK) := by subst hT; exact (by first | (simp only [At, ↓Array.getElem?_setIfInBounds_ne, ne_eq, Nat.reduceEqDiff, not_false_eq_true]; done) | simp [At, hs1, f1000_1, f1001_1])
  have f24_2 := fun hh => getq q24_2 hh
  clear hT f1001_1 f1000_1 hs1 q1000_1 q1001_1
  go_wp2_with fail
  refine ((HT1 _).out).mono ?_
  rintro e w105 ⟨rfl, hb_⟩
  have HFw105 := Lib.hid (Lay.after (w := w) (B := [(g, a, b), (g + 1, c, d)]) (Lay.after (HFw104.out) (by repeat (first | exact Below.refl _ _ | refine bl_alloc ?_ _ | refine bl_drewN ?_ _ | refine bl_set ?_ (by first | omega | (simp; done) | (simp; omega)) _))) hb_)
  clear hb_ c00 c01 z0 c10 c11 z1
  obtain ⟨c00, c01, z0, c10, c11, z1, hbl⟩ := Lay.op (HFw105.out)
  clear hbl
  go_wp2_with fail
  refine ((HT2 _).out).mono ?_
  rintro e w106 ⟨rfl, hb_⟩
  have HFw106 := Lib.hid (Lay.after (w := w) (B := [(g, a, b), (g + 1, c, d)]) (Lay.after (HFw105.out) (by repeat (first | exact Below.refl _ _ | refine bl_alloc ?_ _ | refine bl_drewN ?_ _ | refine bl_set ?_ (by first | omega | (simp; done) | (simp; omega)) _))) hb_)
  clear hb_ c00 c01 z0 c10 c11 z1
  obtain ⟨c00, c01, z0, c10, c11, z1, hbl⟩ := Lay.op (HFw106.out)
  clear hbl
  go_wp2_with fail
  refine ((HW1 _).out).mono ?_
  rintro e w107 ⟨rfl, hb_⟩
  have HFw107 := Lib.hid (Lay.after (w := w) (B := [(g, a, b), (g + 1, c, d)]) (Lay.after (HFw106.out) (by repeat (first | exact Below.refl _ _ | refine bl_alloc ?_ _ | refine bl_drewN ?_ _ | refine bl_set ?_ (by first | omega | (simp; done) | (simp; omega)) _))) hb_)
  clear hb_ c00 c01 z0 c10 c11 z1
  obtain ⟨c00, c01, z0, c10, c11, z1, hbl⟩ := Lay.op (HFw107.out)
  clear hbl
  go_wp2_with fail
  refine ((HW2 _).out).mono ?_
  rintro e w108 ⟨rfl, hb_⟩
  have HFw108 := Lib.hid (Lay.after (w := w) (B := [(g, a, b), (g + 1, c, d)]) (Lay.after (HFw107.out) (by repeat (first | exact Below.refl _ _ | refine bl_alloc ?_ _ | refine bl_drewN ?_ _ | refine bl_set ?_ (by first | omega | (simp; done) | (simp; omega)) _))) hb_)
  clear hb_ c00 c01 z0 c10 c11 z1
  obtain ⟨c00, c01, z0, c10, c11, z1, hbl⟩ := Lay.op (HFw108.out)
  clear hbl
  go_upto_region 12 with fail
  refine reframe fun T3 hT => ?_
  have hs3 : T3.size = 636 := by subst hT; simp [hs2]
  have q7_3 : At T3 5 (.pointer (some ⟨g, 0, none⟩)) := by subst hT; exact (by first | (simp only [At, ↓Array.getElem?_setIfInBounds_ne, ne_eq, Nat.reduceEqDiff, not_false_eq_true, q7_2]; done) | simp [At, hs2, f7_2, f8_2, f1001_2, f15_2, f16_2, f17_2, f18_2, f19_2, f20_2, f21_2, f22_2, f23_2, f24_2])
  have f7_3 := fun hh => getq q7_3 hh
  have q8_3 : At T3 6 (.pointer (some ⟨g + 1, 0, none⟩)) := by subst hT; exact (by first | (simp only [At, ↓Array.getElem?_setIfInBounds_ne, ne_eq, Nat.reduceEqDiff, not_false_eq_true, q8_2]; done) | simp [At, hs2, f7_2, f8_2, f1001_2, f15_2, f16_2, f17_2, f18_2, f19_2, f20_2, f21_2, f22_2, f23_2, f24_2])
  have f8_3 := fun hh => getq q8_3 hh
  have q1001_3 : At T3 1 (Y1) := by subst hT; exact (by first | (simp only [At, ↓Array.getElem?_setIfInBounds_ne, ne_eq, Nat.reduceEqDiff, not_false_eq_true, q1001_2]; done) | simp [At, hs2, f7_2, f8_2, f1001_2, f15_2, f16_2, f17_2, f18_2, f19_2, f20_2, f21_2, f22_2, f23_2, f24_2])
  have f1001_3 := fun hh => getq q1001_3 hh
  have q15_3 : At T3 7 (.int .i64 N) := by subst hT; exact (by first | (simp only [At, ↓Array.getElem?_setIfInBounds_ne, ne_eq, Nat.reduceEqDiff, not_false_eq_true, q15_2]; done) | simp [At, hs2, f7_2, f8_2, f1001_2, f15_2, f16_2, f17_2, f18_2, f19_2, f20_2, f21_2, f22_2, f23_2, f24_2])
  have f15_3 := fun hh => getq q15_3 hh
  have q16_3 : At T3 8 (.int .i64 D) := by subst hT; exact (by first | (simp only [At, ↓Array.getElem?_setIfInBounds_ne, ne_eq, Nat.reduceEqDiff, not_false_eq_true, q16_2]; done) | simp [At, hs2, f7_2, f8_2, f1001_2, f15_2, f16_2, f17_2, f18_2, f19_2, f20_2, f21_2, f22_2, f23_2, f24_2])
  have f16_3 := fun hh => getq q16_3 hh
  have q17_3 : At T3 9 (.bool OK) := by subst hT; exact (by first | (simp only [At, ↓Array.getElem?_setIfInBounds_ne, ne_eq, Nat.reduceEqDiff, not_false_eq_true, q17_2]; done) | simp [At, hs2, f7_2, f8_2, f1001_2, f15_2, f16_2, f17_2, f18_2, f19_2, f20_2, f21_2, f22_2, f23_2, f24_2])
  have f17_3 := fun hh => getq q17_3 hh
  have q18_3 : At T3 10 (.int .i64 N) := by subst hT; exact (by first | (simp only [At, ↓Array.getElem?_setIfInBounds_ne, ne_eq, Nat.reduceEqDiff, not_false_eq_true, q18_2]; done) | simp [At, hs2, f7_2, f8_2, f1001_2, f15_2, f16_2, f17_2, f18_2, f19_2, f20_2, f21_2, f22_2, f23_2, f24_2])
  have f18_3 := fun hh => getq q18_3 hh
  have q19_3 : At T3 11 (.int .i64 D) := by subst hT; exact (by first | (simp only [At, ↓Array.getElem?_setIfInBounds_ne, ne_eq, Nat.reduceEqDiff, not_false_eq_true, q19_2]; done) | simp [At, hs2, f7_2, f8_2, f1001_2, f15_2, f16_2, f17_2, f18_2, f19_2, f20_2, f21_2, f22_2, f23_2, f24_2])
  have f19_3 := fun hh => getq q19_3 hh
  have q20_3 : At T3 12 (.bool OK) := by subst hT; exact (by first | (simp only [At, ↓Array.getElem?_setIfInBounds_ne, ne_eq, Nat.reduceEqDiff, not_false_eq_true, q20_2]; done) | simp [At, hs2, f7_2, f8_2, f1001_2, f15_2, f16_2, f17_2, f18_2, f19_2, f20_2, f21_2, f22_2, f23_2, f24_2])
  have f20_3 := fun hh => getq q20_3 hh
  have q21_3 : At T3 13 (.int .i64 M) := by subst hT; exact (by first | (simp only [At, ↓Array.getElem?_setIfInBounds_ne, ne_eq, Nat.reduceEqDiff, not_false_eq_true, q21_2]; done) | simp [At, hs2, f7_2, f8_2, f1001_2, f15_2, f16_2, f17_2, f18_2, f19_2, f20_2, f21_2, f22_2, f23_2, f24_2])
  have f21_3 := fun hh => getq q21_3 hh
  have q22_3 : At T3 14 (.bool OK) := by subst hT; exact (by first | (simp only [At, ↓Array.getElem?_setIfInBounds_ne, ne_eq, Nat.reduceEqDiff, not_false_eq_true, q22_2]; done) | simp [At, hs2, f7_2, f8_2, f1001_2, f15_2, f16_2, f17_2, f18_2, f19_2, f20_2, f21_2, f22_2, f23_2, f24_2])
  have f22_3 := fun hh => getq q22_3 hh
  have q23_3 : At T3 15 (.int .i64 M) := by subst hT; exact (by first | (simp only [At, ↓Array.getElem?_setIfInBounds_ne, ne_eq, Nat.reduceEqDiff, not_false_eq_true, q23_2]; done) | simp [At, hs2, f7_2, f8_2, f1001_2, f15_2, f16_2, f17_2, f18_2, f19_2, f20_2, f21_2, f22_2, f23_2, f24_2])
  have f23_3 := fun hh => getq q23_3 hh
  have q24_3 : At T3 16 (.bool OK) := by subst hT; exact (by first | (simp only [At, ↓Array.getElem?_setIfInBounds_ne, ne_eq, Nat.reduceEqDiff, not_false_eq_true, q24_2]; done) | simp [At, hs2, f7_2, f8_2, f1001_2, f15_2, f16_2, f17_2, f18_2, f19_2, f20_2, f21_2, f22_2, f23_2, f24_2])
  have f24_3 := fun hh => getq q24_3 hh
  have q25_3 : At T3 17 (.int .i64 Q) := by subst hT; exact (by first | (simp only [At, ↓Array.getElem?_setIfInBounds_ne, ne_eq, Nat.reduceEqDiff, not_false_eq_true]; done) | simp [At, hs2, f7_2, f8_2, f1001_2, f15_2, f16_2, f17_2, f18_2, f19_2, f20_2, f21_2, f22_2, f23_2, f24_2])
  have f25_3 := fun hh => getq q25_3 hh
  have q26_3 : At T3 18 (.bool OK) := by subst hT; exact (by first | (simp only [At, ↓Array.getElem?_setIfInBounds_ne, ne_eq, Nat.reduceEqDiff, not_false_eq_true]; done) | simp [At, hs2, f7_2, f8_2, f1001_2, f15_2, f16_2, f17_2, f18_2, f19_2, f20_2, f21_2, f22_2, f23_2, f24_2])
  have f26_3 := fun hh => getq q26_3 hh
  have q27_3 : At T3 19 (.int .i64 Q) := by subst hT; exact (by first | (simp only [At, ↓Array.getElem?_setIfInBounds_ne, ne_eq, Nat.reduceEqDiff, not_false_eq_true]; done) | simp [At, hs2, f7_2, f8_2, f1001_2, f15_2, f16_2, f17_2, f18_2, f19_2, f20_2, f21_2, f22_2, f23_2, f24_2])
  have f27_3 := fun hh => getq q27_3 hh
  have q28_3 : At T3 20 (.bool OK) := by subst hT; exact (by first | (simp only [At, ↓Array.getElem?_setIfInBounds_ne, ne_eq, Nat.reduceEqDiff, not_false_eq_true]; done) | simp [At, hs2, f7_2, f8_2, f1001_2, f15_2, f16_2, f17_2, f18_2, f19_2, f20_2, f21_2, f22_2, f23_2, f24_2])
  have f28_3 := fun hh => getq q28_3 hh
  have q29_3 : At T3 21 (.bool WH) := by subst hT; exact (by first | (simp only [At, ↓Array.getElem?_setIfInBounds_ne, ne_eq, Nat.reduceEqDiff, not_false_eq_true]; done) | simp [At, hs2, f7_2, f8_2, f1001_2, f15_2, f16_2, f17_2, f18_2, f19_2, f20_2, f21_2, f22_2, f23_2, f24_2])
  have f29_3 := fun hh => getq q29_3 hh
  have q30_3 : At T3 22 (.bool OK) := by subst hT; exact (by first | (simp only [At, ↓Array.getElem?_setIfInBounds_ne, ne_eq, Nat.reduceEqDiff, not_false_eq_true]; done) | simp [At, hs2, f7_2, f8_2, f1001_2, f15_2, f16_2, f17_2, f18_2, f19_2, f20_2, f21_2, f22_2, f23_2, f24_2])
  have f30_3 := fun hh => getq q30_3 hh
  have q31_3 : At T3 23 (.bool WH) := by subst hT; exact (by first | (simp only [At, ↓Array.getElem?_setIfInBounds_ne, ne_eq, Nat.reduceEqDiff, not_false_eq_true]; done) | simp [At, hs2, f7_2, f8_2, f1001_2, f15_2, f16_2, f17_2, f18_2, f19_2, f20_2, f21_2, f22_2, f23_2, f24_2])
  have f31_3 := fun hh => getq q31_3 hh
  have q32_3 : At T3 24 (.bool OK) := by subst hT; exact (by first | (simp only [At, ↓Array.getElem?_setIfInBounds_ne, ne_eq, Nat.reduceEqDiff, not_false_eq_true]; done) | simp [At, hs2, f7_2, f8_2, f1001_2, f15_2, f16_2, f17_2, f18_2, f19_2, f20_2, f21_2, f22_2, f23_2, f24_2])
  have f32_3 := fun hh => getq q32_3 hh
  clear hT f24_2 f23_2 f22_2 f21_2 f20_2 f19_2 f18_2 f17_2 f16_2 f15_2 f1001_2 f8_2 f7_2 hs2 q7_2 q8_2 q1001_2 q15_2 q16_2 q17_2 q18_2 q19_2 q20_2 q21_2 q22_2 q23_2 q24_2
  clear HA1 HA2 HM1 HM2 HT1 HT2 HW1 HW2
  refine wp_cut (fun a' wx => ∃ T : Array Value, a' = ⟨T, []⟩ ∧ T.size = 636 ∧ At T 5 (.pointer (some ⟨g, 0, none⟩)) ∧ At T 6 (.pointer (some ⟨g + 1, 0, none⟩)) ∧ At T 1 (Y1) ∧ At T 7 (.int .i64 N) ∧ At T 8 (.int .i64 D) ∧ At T 9 (.bool OK) ∧ At T 13 (.int .i64 M) ∧ At T 17 (.int .i64 Q) ∧ At T 21 (.bool WH) ∧ At T 201 (.bool false) ∧ Lay w [(g, a, b), (g + 1, c, d)] wx) ?rest ?first
  case first =>
    intro J K' hJ hK
    clear FT
    cases KA
    · obtain rfl : OK = false := hOK.out
      exact reg9_no _ _ _ _ _ _ _ _ _ _ _ _ _ _ _ _ _ hs3 q7_3 q8_3 q1001_3 q15_3 q16_3 q17_3 q18_3 q19_3 q20_3 q21_3 q22_3 q23_3 q24_3 q25_3 q26_3 q27_3 q28_3 q29_3 q30_3 q31_3 q32_3 (HFw108.out) HIA1 HIA2 HIB _ _ _ hJ hK
    · obtain rfl : OK = KB := hOK.out
      exact reg9_yes _ _ _ _ _ _ _ _ _ _ _ _ _ _ _ _ _ hs3 q7_3 q8_3 q1001_3 q15_3 q16_3 q17_3 q18_3 q19_3 q20_3 q21_3 q22_3 q23_3 q24_3 q25_3 q26_3 q27_3 q28_3 q29_3 q30_3 q31_3 q32_3 (HFw108.out) HIA1 HIA2 HIB _ _ _ hJ hK
  case rest =>
    intro a' wc1 hR1
    obtain ⟨T4, rfl, hs4, q7_4, q8_4, q1001_4, q15_4, q16_4, q17_4, q21_4, q25_4, q29_4, q196_4, hL_⟩ := hR1
    have f7_4 := fun hh => getq q7_4 hh
    have f8_4 := fun hh => getq q8_4 hh
    have f1001_4 := fun hh => getq q1001_4 hh
    have f15_4 := fun hh => getq q15_4 hh
    have f16_4 := fun hh => getq q16_4 hh
    have f17_4 := fun hh => getq q17_4 hh
    have f21_4 := fun hh => getq q21_4 hh
    have f25_4 := fun hh => getq q25_4 hh
    have f29_4 := fun hh => getq q29_4 hh
    have f196_4 := fun hh => getq q196_4 hh
    have HFwc1 := Lib.hid hL_
    clear hL_
    obtain ⟨c00, c01, z0, c10, c11, z1, hbl⟩ := Lay.op (HFwc1.out)
    clear hbl
    clear HIA1 HIA2 HIB hOK
    go_wp2_with fail
    refine wp_cond_f ?_ ?_
    · go_simp
    go_upto_region 14 with fail
    refine reframe fun T5 hT => ?_
    have hs5 : T5.size = 636 := by subst hT; simp [hs4]
    have q7_5 : At T5 5 (.pointer (some ⟨g, 0, none⟩)) := by subst hT; exact (by first | (simp only [At, ↓Array.getElem?_setIfInBounds_ne, ne_eq, Nat.reduceEqDiff, not_false_eq_true, q7_4]; done) | simp [At, hs4, f7_4, f8_4, f1001_4, f15_4, f16_4, f17_4, f21_4, f25_4, f29_4, f196_4])
    have f7_5 := fun hh => getq q7_5 hh
    have q8_5 : At T5 6 (.pointer (some ⟨g + 1, 0, none⟩)) := by subst hT; exact (by first | (simp only [At, ↓Array.getElem?_setIfInBounds_ne, ne_eq, Nat.reduceEqDiff, not_false_eq_true, q8_4]; done) | simp [At, hs4, f7_4, f8_4, f1001_4, f15_4, f16_4, f17_4, f21_4, f25_4, f29_4, f196_4])
    have f8_5 := fun hh => getq q8_5 hh
    have q1001_5 : At T5 1 (Y1) := by subst hT; exact (by first | (simp only [At, ↓Array.getElem?_setIfInBounds_ne, ne_eq, Nat.reduceEqDiff, not_false_eq_true, q1001_4]; done) | simp [At, hs4, f7_4, f8_4, f1001_4, f15_4, f16_4, f17_4, f21_4, f25_4, f29_4, f196_4])
    have f1001_5 := fun hh => getq q1001_5 hh
    have q15_5 : At T5 7 (.int .i64 N) := by subst hT; exact (by first | (simp only [At, ↓Array.getElem?_setIfInBounds_ne, ne_eq, Nat.reduceEqDiff, not_false_eq_true, q15_4]; done) | simp [At, hs4, f7_4, f8_4, f1001_4, f15_4, f16_4, f17_4, f21_4, f25_4, f29_4, f196_4])
    have f15_5 := fun hh => getq q15_5 hh
    have q16_5 : At T5 8 (.int .i64 D) := by subst hT; exact (by first | (simp only [At, ↓Array.getElem?_setIfInBounds_ne, ne_eq, Nat.reduceEqDiff, not_false_eq_true, q16_4]; done) | simp [At, hs4, f7_4, f8_4, f1001_4, f15_4, f16_4, f17_4, f21_4, f25_4, f29_4, f196_4])
    have f16_5 := fun hh => getq q16_5 hh
    have q17_5 : At T5 9 (.bool OK) := by subst hT; exact (by first | (simp only [At, ↓Array.getElem?_setIfInBounds_ne, ne_eq, Nat.reduceEqDiff, not_false_eq_true, q17_4]; done) | simp [At, hs4, f7_4, f8_4, f1001_4, f15_4, f16_4, f17_4, f21_4, f25_4, f29_4, f196_4])
    have f17_5 := fun hh => getq q17_5 hh
    have q21_5 : At T5 13 (.int .i64 M) := by subst hT; exact (by first | (simp only [At, ↓Array.getElem?_setIfInBounds_ne, ne_eq, Nat.reduceEqDiff, not_false_eq_true, q21_4]; done) | simp [At, hs4, f7_4, f8_4, f1001_4, f15_4, f16_4, f17_4, f21_4, f25_4, f29_4, f196_4])
    have f21_5 := fun hh => getq q21_5 hh
    have q25_5 : At T5 17 (.int .i64 Q) := by subst hT; exact (by first | (simp only [At, ↓Array.getElem?_setIfInBounds_ne, ne_eq, Nat.reduceEqDiff, not_false_eq_true, q25_4]; done) | simp [At, hs4, f7_4, f8_4, f1001_4, f15_4, f16_4, f17_4, f21_4, f25_4, f29_4, f196_4])
    have f25_5 := fun hh => getq q25_5 hh
    have q29_5 : At T5 21 (.bool WH) := by subst hT; exact (by first | (simp only [At, ↓Array.getElem?_setIfInBounds_ne, ne_eq, Nat.reduceEqDiff, not_false_eq_true, q29_4]; done) | simp [At, hs4, f7_4, f8_4, f1001_4, f15_4, f16_4, f17_4, f21_4, f25_4, f29_4, f196_4])
    have f29_5 := fun hh => getq q29_5 hh
    clear hT f196_4 f29_4 f25_4 f21_4 f17_4 f16_4 f15_4 f1001_4 f8_4 f7_4 hs4 q7_4 q8_4 q1001_4 q15_4 q16_4 q17_4 q21_4 q25_4 q29_4 q196_4
    go_wp2_with fail
    refine wp_cut (fun a' wx => ∃ T : Array Value, a' = ⟨T, []⟩ ∧ T.size = 636 ∧ At T 1 (Y1) ∧ Below w.heap.size w wx) ?rest2 ?first2
    case first2 =>
      intro J K' hJ hK
      cases OK
      · go_wp2_with fail
        refine wp_cond_f ?_ ?_
        · go_simp
        go_wp2_with fail
        refine Met.intro (hJ _ _ ⟨_, rfl, by simp [hs5], by first | (simp only [At, ↓Array.getElem?_setIfInBounds_ne, ne_eq, Nat.reduceEqDiff, not_false_eq_true, q1001_5]; done) | simp [At, hs5, f7_5, f8_5, f1001_5, f15_5, f16_5, f17_5, f21_5, f25_5, f29_5], (by repeat (first | exact Lay.bl (HFwc1.out) | refine bl_drewN ?_ _))⟩)
      · obtain ⟨HJ, hWH, hM, hT, ⟨⟨a1, a2, b1, b2⟩, c1, c2, d1, d2⟩, ⟨t1, t2⟩, HB1_, HB2_, HB3_, HB4_, HB5_, HB6_⟩ := FT.out rfl
        clear FT
        subst hWH
        subst hM
        obtain ⟨dd1, dd2, nn1, nn2, _, hE⟩ := hT
        have HE := Lib.hid hE
        clear hE
        go_wp2_with fail
        refine wp_cond_t ?_ ?_
        · go_simp
        go_wp2_with fail
        refine ((HB1_ _).out).mono ?_
        rintro e w110 ⟨rfl, hb_⟩
        have HFw110 := Lib.hid (Lay.after (w := w) (B := [(g, a, b), (g + 1, c, d)]) (Lay.after (HFwc1.out) (by repeat (first | exact Below.refl _ _ | refine bl_alloc ?_ _ | refine bl_drewN ?_ _ | refine bl_set ?_ (by first | omega | (simp; done) | (simp; omega)) _))) hb_)
        clear hb_ c00 c01 z0 c10 c11 z1
        obtain ⟨c00, c01, z0, c10, c11, z1, hbl⟩ := Lay.op (HFw110.out)
        clear hbl
        go_wp2_with fail
        refine ((HB2_ _).out).mono ?_
        rintro e w111 ⟨rfl, hb_⟩
        have HFw111 := Lib.hid (Lay.after (w := w) (B := [(g, a, b), (g + 1, c, d)]) (Lay.after (HFw110.out) (by repeat (first | exact Below.refl _ _ | refine bl_alloc ?_ _ | refine bl_drewN ?_ _ | refine bl_set ?_ (by first | omega | (simp; done) | (simp; omega)) _))) hb_)
        clear hb_ c00 c01 z0 c10 c11 z1
        obtain ⟨c00, c01, z0, c10, c11, z1, hbl⟩ := Lay.op (HFw111.out)
        clear hbl
        go_upto_region 17 with fail
        refine reframe fun T6 hT => ?_
        have hs6 : T6.size = 636 := by subst hT; simp [hs5]
        have q7_6 : At T6 5 (.pointer (some ⟨g, 0, none⟩)) := by subst hT; exact (by first | (simp only [At, ↓Array.getElem?_setIfInBounds_ne, ne_eq, Nat.reduceEqDiff, not_false_eq_true, q7_5]; done) | simp [At, hs5, f7_5, f8_5, f1001_5, f15_5, f16_5, f17_5, f21_5, f25_5, f29_5])
        have f7_6 := fun hh => getq q7_6 hh
        have q8_6 : At T6 6 (.pointer (some ⟨g + 1, 0, none⟩)) := by subst hT; exact (by first | (simp only [At, ↓Array.getElem?_setIfInBounds_ne, ne_eq, Nat.reduceEqDiff, not_false_eq_true, q8_5]; done) | simp [At, hs5, f7_5, f8_5, f1001_5, f15_5, f16_5, f17_5, f21_5, f25_5, f29_5])
        have f8_6 := fun hh => getq q8_6 hh
        have q1001_6 : At T6 1 (Y1) := by subst hT; exact (by first | (simp only [At, ↓Array.getElem?_setIfInBounds_ne, ne_eq, Nat.reduceEqDiff, not_false_eq_true, q1001_5]; done) | simp [At, hs5, f7_5, f8_5, f1001_5, f15_5, f16_5, f17_5, f21_5, f25_5, f29_5])
        have f1001_6 := fun hh => getq q1001_6 hh
        have q15_6 : At T6 7 (.int .i64 N) := by subst hT; exact (by first | (simp only [At, ↓Array.getElem?_setIfInBounds_ne, ne_eq, Nat.reduceEqDiff, not_false_eq_true, q15_5]; done) | simp [At, hs5, f7_5, f8_5, f1001_5, f15_5, f16_5, f17_5, f21_5, f25_5, f29_5])
        have f15_6 := fun hh => getq q15_6 hh
        have q16_6 : At T6 8 (.int .i64 D) := by subst hT; exact (by first | (simp only [At, ↓Array.getElem?_setIfInBounds_ne, ne_eq, Nat.reduceEqDiff, not_false_eq_true, q16_5]; done) | simp [At, hs5, f7_5, f8_5, f1001_5, f15_5, f16_5, f17_5, f21_5, f25_5, f29_5])
        have f16_6 := fun hh => getq q16_6 hh
        have q25_6 : At T6 17 (.int .i64 Q) := by subst hT; exact (by first | (simp only [At, ↓Array.getElem?_setIfInBounds_ne, ne_eq, Nat.reduceEqDiff, not_false_eq_true, q25_5]; done) | simp [At, hs5, f7_5, f8_5, f1001_5, f15_5, f16_5, f17_5, f21_5, f25_5, f29_5])
        have f25_6 := fun hh => getq q25_6 hh
        have q21_6 : At T6 13 (.int .i64 (Q + 4 * b * d)) := by subst hT; exact (by first | (simp only [At, ↓Array.getElem?_setIfInBounds_ne, ne_eq, Nat.reduceEqDiff, not_false_eq_true, q21_5]; done) | simp [At, hs5, f7_5, f8_5, f1001_5, f15_5, f16_5, f17_5, f21_5, f25_5, f29_5])
        have f21_6 := fun hh => getq q21_6 hh
        have q29_6 : At T6 21 (.bool (D == 1)) := by subst hT; exact (by first | (simp only [At, ↓Array.getElem?_setIfInBounds_ne, ne_eq, Nat.reduceEqDiff, not_false_eq_true, q29_5]; done) | simp [At, hs5, f7_5, f8_5, f1001_5, f15_5, f16_5, f17_5, f21_5, f25_5, f29_5])
        have f29_6 := fun hh => getq q29_6 hh
        have q33_6 : At T6 25 (.int .i64 N) := by subst hT; exact (by first | (simp only [At, ↓Array.getElem?_setIfInBounds_ne, ne_eq, Nat.reduceEqDiff, not_false_eq_true]; done) | simp [At, hs5, f7_5, f8_5, f1001_5, f15_5, f16_5, f17_5, f21_5, f25_5, f29_5])
        have f33_6 := fun hh => getq q33_6 hh
        have q34_6 : At T6 26 (.int .i64 D) := by subst hT; exact (by first | (simp only [At, ↓Array.getElem?_setIfInBounds_ne, ne_eq, Nat.reduceEqDiff, not_false_eq_true]; done) | simp [At, hs5, f7_5, f8_5, f1001_5, f15_5, f16_5, f17_5, f21_5, f25_5, f29_5])
        have f34_6 := fun hh => getq q34_6 hh
        have q35_6 : At T6 27 (.bool true) := by subst hT; exact (by first | (simp only [At, ↓Array.getElem?_setIfInBounds_ne, ne_eq, Nat.reduceEqDiff, not_false_eq_true]; done) | simp [At, hs5, f7_5, f8_5, f1001_5, f15_5, f16_5, f17_5, f21_5, f25_5, f29_5])
        have f35_6 := fun hh => getq q35_6 hh
        have q36_6 : At T6 28 (.int .i64 (Q + 4 * b * d)) := by subst hT; exact (by first | (simp only [At, ↓Array.getElem?_setIfInBounds_ne, ne_eq, Nat.reduceEqDiff, not_false_eq_true]; done) | simp [At, hs5, f7_5, f8_5, f1001_5, f15_5, f16_5, f17_5, f21_5, f25_5, f29_5])
        have f36_6 := fun hh => getq q36_6 hh
        have q37_6 : At T6 29 (.bool true) := by subst hT; exact (by first | (simp only [At, ↓Array.getElem?_setIfInBounds_ne, ne_eq, Nat.reduceEqDiff, not_false_eq_true]; done) | simp [At, hs5, f7_5, f8_5, f1001_5, f15_5, f16_5, f17_5, f21_5, f25_5, f29_5])
        have f37_6 := fun hh => getq q37_6 hh
        clear hT f29_5 f25_5 f21_5 f17_5 f16_5 f15_5 f1001_5 f8_5 f7_5 hs5 q7_5 q8_5 q1001_5 q15_5 q16_5 q17_5 q21_5 q25_5 q29_5
        go_wp2_with fail
        refine ((HB3_ _).out).mono ?_
        rintro e w112 ⟨rfl, hb_⟩
        have HFw112 := Lib.hid (Lay.after (w := w) (B := [(g, a, b), (g + 1, c, d)]) (Lay.after (HFw111.out) (by repeat (first | exact Below.refl _ _ | refine bl_alloc ?_ _ | refine bl_drewN ?_ _ | refine bl_set ?_ (by first | omega | (simp; done) | (simp; omega)) _))) hb_)
        clear hb_ c00 c01 z0 c10 c11 z1
        obtain ⟨c00, c01, z0, c10, c11, z1, hbl⟩ := Lay.op (HFw112.out)
        clear hbl
        go_wp2_with fail
        refine ((HB4_ _).out).mono ?_
        rintro e w113 ⟨rfl, hb_⟩
        have HFw113 := Lib.hid (Lay.after (w := w) (B := [(w112.heap.size, -a, b), (g, a, b), (g + 1, c, d)]) (Lay.c (g := w112.heap.size) (x := -a) (y := b) (by simp [go_sem]) (by simp [go_sem]) (by first | (simp; done) | (simp; omega)) (Lay.after (HFw112.out) (by repeat (first | exact Below.refl _ _ | refine bl_alloc ?_ _ | refine bl_drewN ?_ _ | refine bl_set ?_ (by first | omega | (simp; done) | (simp; omega)) _)))) hb_)
        clear hb_ c00 c01 z0 c10 c11 z1
        obtain ⟨c00, c01, z0, c10, c11, z1, c20, c21, z2, hbl⟩ := Lay.op (HFw113.out)
        clear hbl
        go_upto_region 19 with fail
        refine reframe fun T7 hT => ?_
        have hs7 : T7.size = 636 := by subst hT; simp [hs6]
        have q7_7 : At T7 5 (.pointer (some ⟨g, 0, none⟩)) := by subst hT; exact (by first | (simp only [At, ↓Array.getElem?_setIfInBounds_ne, ne_eq, Nat.reduceEqDiff, not_false_eq_true, q7_6]; done) | simp [At, hs6, f7_6, f8_6, f1001_6, f15_6, f16_6, f25_6, f21_6, f29_6, f33_6, f34_6, f35_6, f36_6, f37_6])
        have f7_7 := fun hh => getq q7_7 hh
        have q8_7 : At T7 6 (.pointer (some ⟨g + 1, 0, none⟩)) := by subst hT; exact (by first | (simp only [At, ↓Array.getElem?_setIfInBounds_ne, ne_eq, Nat.reduceEqDiff, not_false_eq_true, q8_6]; done) | simp [At, hs6, f7_6, f8_6, f1001_6, f15_6, f16_6, f25_6, f21_6, f29_6, f33_6, f34_6, f35_6, f36_6, f37_6])
        have f8_7 := fun hh => getq q8_7 hh
        have q1001_7 : At T7 1 (Y1) := by subst hT; exact (by first | (simp only [At, ↓Array.getElem?_setIfInBounds_ne, ne_eq, Nat.reduceEqDiff, not_false_eq_true, q1001_6]; done) | simp [At, hs6, f7_6, f8_6, f1001_6, f15_6, f16_6, f25_6, f21_6, f29_6, f33_6, f34_6, f35_6, f36_6, f37_6])
        have f1001_7 := fun hh => getq q1001_7 hh
        have q15_7 : At T7 7 (.int .i64 N) := by subst hT; exact (by first | (simp only [At, ↓Array.getElem?_setIfInBounds_ne, ne_eq, Nat.reduceEqDiff, not_false_eq_true, q15_6]; done) | simp [At, hs6, f7_6, f8_6, f1001_6, f15_6, f16_6, f25_6, f21_6, f29_6, f33_6, f34_6, f35_6, f36_6, f37_6])
        have f15_7 := fun hh => getq q15_7 hh
        have q16_7 : At T7 8 (.int .i64 D) := by subst hT; exact (by first | (simp only [At, ↓Array.getElem?_setIfInBounds_ne, ne_eq, Nat.reduceEqDiff, not_false_eq_true, q16_6]; done) | simp [At, hs6, f7_6, f8_6, f1001_6, f15_6, f16_6, f25_6, f21_6, f29_6, f33_6, f34_6, f35_6, f36_6, f37_6])
        have f16_7 := fun hh => getq q16_7 hh
        have q25_7 : At T7 17 (.int .i64 Q) := by subst hT; exact (by first | (simp only [At, ↓Array.getElem?_setIfInBounds_ne, ne_eq, Nat.reduceEqDiff, not_false_eq_true, q25_6]; done) | simp [At, hs6, f7_6, f8_6, f1001_6, f15_6, f16_6, f25_6, f21_6, f29_6, f33_6, f34_6, f35_6, f36_6, f37_6])
        have f25_7 := fun hh => getq q25_7 hh
        have q21_7 : At T7 13 (.int .i64 (Q + 4 * b * d)) := by subst hT; exact (by first | (simp only [At, ↓Array.getElem?_setIfInBounds_ne, ne_eq, Nat.reduceEqDiff, not_false_eq_true, q21_6]; done) | simp [At, hs6, f7_6, f8_6, f1001_6, f15_6, f16_6, f25_6, f21_6, f29_6, f33_6, f34_6, f35_6, f36_6, f37_6])
        have f21_7 := fun hh => getq q21_7 hh
        have q29_7 : At T7 21 (.bool (D == 1)) := by subst hT; exact (by first | (simp only [At, ↓Array.getElem?_setIfInBounds_ne, ne_eq, Nat.reduceEqDiff, not_false_eq_true, q29_6]; done) | simp [At, hs6, f7_6, f8_6, f1001_6, f15_6, f16_6, f25_6, f21_6, f29_6, f33_6, f34_6, f35_6, f36_6, f37_6])
        have f29_7 := fun hh => getq q29_7 hh
        have q33_7 : At T7 25 (.int .i64 N) := by subst hT; exact (by first | (simp only [At, ↓Array.getElem?_setIfInBounds_ne, ne_eq, Nat.reduceEqDiff, not_false_eq_true, q33_6]; done) | simp [At, hs6, f7_6, f8_6, f1001_6, f15_6, f16_6, f25_6, f21_6, f29_6, f33_6, f34_6, f35_6, f36_6, f37_6])
        have f33_7 := fun hh => getq q33_7 hh
        have q34_7 : At T7 26 (.int .i64 D) := by subst hT; exact (by first | (simp only [At, ↓Array.getElem?_setIfInBounds_ne, ne_eq, Nat.reduceEqDiff, not_false_eq_true, q34_6]; done) | simp [At, hs6, f7_6, f8_6, f1001_6, f15_6, f16_6, f25_6, f21_6, f29_6, f33_6, f34_6, f35_6, f36_6, f37_6])
        have f34_7 := fun hh => getq q34_7 hh
        have q35_7 : At T7 27 (.bool true) := by subst hT; exact (by first | (simp only [At, ↓Array.getElem?_setIfInBounds_ne, ne_eq, Nat.reduceEqDiff, not_false_eq_true, q35_6]; done) | simp [At, hs6, f7_6, f8_6, f1001_6, f15_6, f16_6, f25_6, f21_6, f29_6, f33_6, f34_6, f35_6, f36_6, f37_6])
        have f35_7 := fun hh => getq q35_7 hh
        have q36_7 : At T7 28 (.int .i64 (Q + 4 * b * d)) := by subst hT; exact (by first | (simp only [At, ↓Array.getElem?_setIfInBounds_ne, ne_eq, Nat.reduceEqDiff, not_false_eq_true, q36_6]; done) | simp [At, hs6, f7_6, f8_6, f1001_6, f15_6, f16_6, f25_6, f21_6, f29_6, f33_6, f34_6, f35_6, f36_6, f37_6])
        have f36_7 := fun hh => getq q36_7 hh
        have q37_7 : At T7 29 (.bool true) := by subst hT; exact (by first | (simp only [At, ↓Array.getElem?_setIfInBounds_ne, ne_eq, Nat.reduceEqDiff, not_false_eq_true, q37_6]; done) | simp [At, hs6, f7_6, f8_6, f1001_6, f15_6, f16_6, f25_6, f21_6, f29_6, f33_6, f34_6, f35_6, f36_6, f37_6])
        have f37_7 := fun hh => getq q37_7 hh
        have q38_7 : At T7 30 (.pointer (some ⟨w112.heap.size, 0, none⟩)) := by subst hT; exact (by first | (simp only [At, ↓Array.getElem?_setIfInBounds_ne, ne_eq, Nat.reduceEqDiff, not_false_eq_true]; done) | simp [At, hs6, f7_6, f8_6, f1001_6, f15_6, f16_6, f25_6, f21_6, f29_6, f33_6, f34_6, f35_6, f36_6, f37_6])
        have f38_7 := fun hh => getq q38_7 hh
        have q39_7 : At T7 31 (.bool true) := by subst hT; exact (by first | (simp only [At, ↓Array.getElem?_setIfInBounds_ne, ne_eq, Nat.reduceEqDiff, not_false_eq_true]; done) | simp [At, hs6, f7_6, f8_6, f1001_6, f15_6, f16_6, f25_6, f21_6, f29_6, f33_6, f34_6, f35_6, f36_6, f37_6])
        have f39_7 := fun hh => getq q39_7 hh
        have q40_7 : At T7 32 (.pointer (some ⟨w113.heap.size, 0, none⟩)) := by subst hT; exact (by first | (simp only [At, ↓Array.getElem?_setIfInBounds_ne, ne_eq, Nat.reduceEqDiff, not_false_eq_true]; done) | simp [At, hs6, f7_6, f8_6, f1001_6, f15_6, f16_6, f25_6, f21_6, f29_6, f33_6, f34_6, f35_6, f36_6, f37_6])
        have f40_7 := fun hh => getq q40_7 hh
        have q41_7 : At T7 33 (.bool true) := by subst hT; exact (by first | (simp only [At, ↓Array.getElem?_setIfInBounds_ne, ne_eq, Nat.reduceEqDiff, not_false_eq_true]; done) | simp [At, hs6, f7_6, f8_6, f1001_6, f15_6, f16_6, f25_6, f21_6, f29_6, f33_6, f34_6, f35_6, f36_6, f37_6])
        have f41_7 := fun hh => getq q41_7 hh
        clear hT f37_6 f36_6 f35_6 f34_6 f33_6 f29_6 f21_6 f25_6 f16_6 f15_6 f1001_6 f8_6 f7_6 hs6 q7_6 q8_6 q1001_6 q15_6 q16_6 q25_6 q21_6 q29_6 q33_6 q34_6 q35_6 q36_6 q37_6
        go_wp2_with fail
        refine ((HB5_ _).out).mono ?_
        rintro e w114 ⟨rfl, hb_⟩
        have HFw114 := Lib.hid (Lay.after (w := w) (B := [(w113.heap.size, -c, d), (w112.heap.size, -a, b), (g, a, b), (g + 1, c, d)]) (Lay.c (g := w113.heap.size) (x := -c) (y := d) (by simp [go_sem]) (by simp [go_sem]) (by first | (simp; done) | (simp; omega)) (Lay.after (HFw113.out) (by repeat (first | exact Below.refl _ _ | refine bl_alloc ?_ _ | refine bl_drewN ?_ _ | refine bl_set ?_ (by first | omega | (simp; done) | (simp; omega)) _)))) hb_)
        clear hb_ c00 c01 z0 c10 c11 z1 c20 c21 z2
        obtain ⟨c00, c01, z0, c10, c11, z1, hbl⟩ := Lay.op (Lay.tl (Lay.tl (HFw114.out)))
        clear hbl
        go_upto_region 20 with fail
        refine reframe fun T8 hT => ?_
        have hs8 : T8.size = 636 := by subst hT; simp [hs7]
        have q7_8 : At T8 5 (.pointer (some ⟨g, 0, none⟩)) := by subst hT; exact (by first | (simp only [At, ↓Array.getElem?_setIfInBounds_ne, ne_eq, Nat.reduceEqDiff, not_false_eq_true, q7_7]; done) | simp [At, hs7, f7_7, f8_7, f1001_7, f15_7, f16_7, f25_7, f21_7, f29_7, f33_7, f34_7, f35_7, f36_7, f37_7, f38_7, f39_7, f40_7, f41_7])
        have f7_8 := fun hh => getq q7_8 hh
        have q8_8 : At T8 6 (.pointer (some ⟨g + 1, 0, none⟩)) := by subst hT; exact (by first | (simp only [At, ↓Array.getElem?_setIfInBounds_ne, ne_eq, Nat.reduceEqDiff, not_false_eq_true, q8_7]; done) | simp [At, hs7, f7_7, f8_7, f1001_7, f15_7, f16_7, f25_7, f21_7, f29_7, f33_7, f34_7, f35_7, f36_7, f37_7, f38_7, f39_7, f40_7, f41_7])
        have f8_8 := fun hh => getq q8_8 hh
        have q1001_8 : At T8 1 (Y1) := by subst hT; exact (by first | (simp only [At, ↓Array.getElem?_setIfInBounds_ne, ne_eq, Nat.reduceEqDiff, not_false_eq_true, q1001_7]; done) | simp [At, hs7, f7_7, f8_7, f1001_7, f15_7, f16_7, f25_7, f21_7, f29_7, f33_7, f34_7, f35_7, f36_7, f37_7, f38_7, f39_7, f40_7, f41_7])
        have f1001_8 := fun hh => getq q1001_8 hh
        have q15_8 : At T8 7 (.int .i64 N) := by subst hT; exact (by first | (simp only [At, ↓Array.getElem?_setIfInBounds_ne, ne_eq, Nat.reduceEqDiff, not_false_eq_true, q15_7]; done) | simp [At, hs7, f7_7, f8_7, f1001_7, f15_7, f16_7, f25_7, f21_7, f29_7, f33_7, f34_7, f35_7, f36_7, f37_7, f38_7, f39_7, f40_7, f41_7])
        have f15_8 := fun hh => getq q15_8 hh
        have q16_8 : At T8 8 (.int .i64 D) := by subst hT; exact (by first | (simp only [At, ↓Array.getElem?_setIfInBounds_ne, ne_eq, Nat.reduceEqDiff, not_false_eq_true, q16_7]; done) | simp [At, hs7, f7_7, f8_7, f1001_7, f15_7, f16_7, f25_7, f21_7, f29_7, f33_7, f34_7, f35_7, f36_7, f37_7, f38_7, f39_7, f40_7, f41_7])
        have f16_8 := fun hh => getq q16_8 hh
        have q25_8 : At T8 17 (.int .i64 Q) := by subst hT; exact (by first | (simp only [At, ↓Array.getElem?_setIfInBounds_ne, ne_eq, Nat.reduceEqDiff, not_false_eq_true, q25_7]; done) | simp [At, hs7, f7_7, f8_7, f1001_7, f15_7, f16_7, f25_7, f21_7, f29_7, f33_7, f34_7, f35_7, f36_7, f37_7, f38_7, f39_7, f40_7, f41_7])
        have f25_8 := fun hh => getq q25_8 hh
        have q21_8 : At T8 13 (.int .i64 (Q + 4 * b * d)) := by subst hT; exact (by first | (simp only [At, ↓Array.getElem?_setIfInBounds_ne, ne_eq, Nat.reduceEqDiff, not_false_eq_true, q21_7]; done) | simp [At, hs7, f7_7, f8_7, f1001_7, f15_7, f16_7, f25_7, f21_7, f29_7, f33_7, f34_7, f35_7, f36_7, f37_7, f38_7, f39_7, f40_7, f41_7])
        have f21_8 := fun hh => getq q21_8 hh
        have q29_8 : At T8 21 (.bool (D == 1)) := by subst hT; exact (by first | (simp only [At, ↓Array.getElem?_setIfInBounds_ne, ne_eq, Nat.reduceEqDiff, not_false_eq_true, q29_7]; done) | simp [At, hs7, f7_7, f8_7, f1001_7, f15_7, f16_7, f25_7, f21_7, f29_7, f33_7, f34_7, f35_7, f36_7, f37_7, f38_7, f39_7, f40_7, f41_7])
        have f29_8 := fun hh => getq q29_8 hh
        have q33_8 : At T8 25 (.int .i64 N) := by subst hT; exact (by first | (simp only [At, ↓Array.getElem?_setIfInBounds_ne, ne_eq, Nat.reduceEqDiff, not_false_eq_true, q33_7]; done) | simp [At, hs7, f7_7, f8_7, f1001_7, f15_7, f16_7, f25_7, f21_7, f29_7, f33_7, f34_7, f35_7, f36_7, f37_7, f38_7, f39_7, f40_7, f41_7])
        have f33_8 := fun hh => getq q33_8 hh
        have q34_8 : At T8 26 (.int .i64 D) := by subst hT; exact (by first | (simp only [At, ↓Array.getElem?_setIfInBounds_ne, ne_eq, Nat.reduceEqDiff, not_false_eq_true, q34_7]; done) | simp [At, hs7, f7_7, f8_7, f1001_7, f15_7, f16_7, f25_7, f21_7, f29_7, f33_7, f34_7, f35_7, f36_7, f37_7, f38_7, f39_7, f40_7, f41_7])
        have f34_8 := fun hh => getq q34_8 hh
        have q35_8 : At T8 27 (.bool true) := by subst hT; exact (by first | (simp only [At, ↓Array.getElem?_setIfInBounds_ne, ne_eq, Nat.reduceEqDiff, not_false_eq_true, q35_7]; done) | simp [At, hs7, f7_7, f8_7, f1001_7, f15_7, f16_7, f25_7, f21_7, f29_7, f33_7, f34_7, f35_7, f36_7, f37_7, f38_7, f39_7, f40_7, f41_7])
        have f35_8 := fun hh => getq q35_8 hh
        have q36_8 : At T8 28 (.int .i64 (Q + 4 * b * d)) := by subst hT; exact (by first | (simp only [At, ↓Array.getElem?_setIfInBounds_ne, ne_eq, Nat.reduceEqDiff, not_false_eq_true, q36_7]; done) | simp [At, hs7, f7_7, f8_7, f1001_7, f15_7, f16_7, f25_7, f21_7, f29_7, f33_7, f34_7, f35_7, f36_7, f37_7, f38_7, f39_7, f40_7, f41_7])
        have f36_8 := fun hh => getq q36_8 hh
        have q37_8 : At T8 29 (.bool true) := by subst hT; exact (by first | (simp only [At, ↓Array.getElem?_setIfInBounds_ne, ne_eq, Nat.reduceEqDiff, not_false_eq_true, q37_7]; done) | simp [At, hs7, f7_7, f8_7, f1001_7, f15_7, f16_7, f25_7, f21_7, f29_7, f33_7, f34_7, f35_7, f36_7, f37_7, f38_7, f39_7, f40_7, f41_7])
        have f37_8 := fun hh => getq q37_8 hh
        have q39_8 : At T8 31 (.bool true) := by subst hT; exact (by first | (simp only [At, ↓Array.getElem?_setIfInBounds_ne, ne_eq, Nat.reduceEqDiff, not_false_eq_true, q39_7]; done) | simp [At, hs7, f7_7, f8_7, f1001_7, f15_7, f16_7, f25_7, f21_7, f29_7, f33_7, f34_7, f35_7, f36_7, f37_7, f38_7, f39_7, f40_7, f41_7])
        have f39_8 := fun hh => getq q39_8 hh
        have q41_8 : At T8 33 (.bool true) := by subst hT; exact (by first | (simp only [At, ↓Array.getElem?_setIfInBounds_ne, ne_eq, Nat.reduceEqDiff, not_false_eq_true, q41_7]; done) | simp [At, hs7, f7_7, f8_7, f1001_7, f15_7, f16_7, f25_7, f21_7, f29_7, f33_7, f34_7, f35_7, f36_7, f37_7, f38_7, f39_7, f40_7, f41_7])
        have f41_8 := fun hh => getq q41_8 hh
        have q42_8 : At T8 34 (.int .i64 (-N)) := by subst hT; exact (by first | (simp only [At, ↓Array.getElem?_setIfInBounds_ne, ne_eq, Nat.reduceEqDiff, not_false_eq_true]; done) | simp [At, hs7, f7_7, f8_7, f1001_7, f15_7, f16_7, f25_7, f21_7, f29_7, f33_7, f34_7, f35_7, f36_7, f37_7, f38_7, f39_7, f40_7, f41_7])
        have f42_8 := fun hh => getq q42_8 hh
        have q43_8 : At T8 35 (.int .i64 D) := by subst hT; exact (by first | (simp only [At, ↓Array.getElem?_setIfInBounds_ne, ne_eq, Nat.reduceEqDiff, not_false_eq_true]; done) | simp [At, hs7, f7_7, f8_7, f1001_7, f15_7, f16_7, f25_7, f21_7, f29_7, f33_7, f34_7, f35_7, f36_7, f37_7, f38_7, f39_7, f40_7, f41_7])
        have f43_8 := fun hh => getq q43_8 hh
        have q44_8 : At T8 36 (.bool true) := by subst hT; exact (by first | (simp only [At, ↓Array.getElem?_setIfInBounds_ne, ne_eq, Nat.reduceEqDiff, not_false_eq_true]; done) | simp [At, hs7, f7_7, f8_7, f1001_7, f15_7, f16_7, f25_7, f21_7, f29_7, f33_7, f34_7, f35_7, f36_7, f37_7, f38_7, f39_7, f40_7, f41_7])
        have f44_8 := fun hh => getq q44_8 hh
        clear hT f41_7 f40_7 f39_7 f38_7 f37_7 f36_7 f35_7 f34_7 f33_7 f29_7 f21_7 f25_7 f16_7 f15_7 f1001_7 f8_7 f7_7 hs7 q7_7 q8_7 q1001_7 q15_7 q16_7 q25_7 q21_7 q29_7 q33_7 q34_7 q35_7 q36_7 q37_7 q38_7 q39_7 q40_7 q41_7
        obtain ⟨m1, m2⟩ := mul_bd2 (a := 4 * b) (b := d) (m := 4000) (k := 1000) (by omega) (by omega) (by omega) (by omega)
        obtain ⟨m3, m4⟩ := mul_abs (a := a) (b := D) (m := 1000) (k := 2000) (by omega) (by omega) (by omega) (by omega)
        obtain ⟨m5, m6⟩ := mul_abs (a := N - a * D) (b := d) (m := 302000000) (k := 1000) (by omega) (by omega) (by omega) (by omega)
        obtain ⟨m7, m8⟩ := mul_abs (a := c) (b := D) (m := 1000) (k := 2000) (by omega) (by omega) (by omega) (by omega)
        have w1_ : IntKind.i64.wrap (4 * b) = 4 * b := IntWalk.i64_in _ ⟨by omega, by omega⟩
        have w2_ : IntKind.i64.wrap (4 * b * d) = 4 * b * d := IntWalk.i64_in _ ⟨by omega, by omega⟩
        have w3_ : IntKind.i64.wrap (Q + 4 * b * d) = Q + 4 * b * d := IntWalk.i64_in _ ⟨by omega, by omega⟩
        have w4_ : IntKind.i64.wrap (a * D) = a * D := IntWalk.i64_in _ ⟨by omega, by omega⟩
        have w5_ : IntKind.i64.wrap (N - a * D) = N - a * D := IntWalk.i64_in _ ⟨by omega, by omega⟩
        have w6_ : IntKind.i64.wrap ((N - a * D) * d) = (N - a * D) * d := IntWalk.i64_in _ ⟨by omega, by omega⟩
        have w7_ : IntKind.i64.wrap (c * D) = c * D := IntWalk.i64_in _ ⟨by omega, by omega⟩
        have w8_ : IntKind.i64.wrap (c * D - N) = c * D - N := IntWalk.i64_in _ ⟨by omega, by omega⟩
        have w9_ : IntKind.i64.wrap ((c * D - N) * b) = (N - a * D) * d := by rw [← HE.out]; exact w6_
        have w10_ : IntKind.i64.wrap (-N) = -N := IntWalk.i64_in _ ⟨by omega, by omega⟩
        clear m1 m2 m3 m4 m5 m6 m7 m8
        go_wp2_with fail
        refine ((HJ _).out).mono ?_
        rintro e w' ⟨rfl, nA, rfl⟩
        go_wp2_with fail
        refine wp_cond_f ?_ ?_
        · go_simp
        clear w1_ w2_ w3_ w4_ w5_ w6_ w7_ w8_ w9_ w10_ HE HJ
        go_upto_region 22 with fail
        refine reframe fun T9 hT => ?_
        have hs9 : T9.size = 636 := by subst hT; simp [hs8]
        have q7_9 : At T9 5 (.pointer (some ⟨g, 0, none⟩)) := by subst hT; exact (by first | (simp only [At, ↓Array.getElem?_setIfInBounds_ne, ne_eq, Nat.reduceEqDiff, not_false_eq_true, q7_8]; done) | simp [At, hs8, f7_8, f8_8, f1001_8, f15_8, f16_8, f25_8, f21_8, f29_8, f33_8, f34_8, f35_8, f36_8, f37_8, f39_8, f41_8, f42_8, f43_8, f44_8])
        have f7_9 := fun hh => getq q7_9 hh
        have q8_9 : At T9 6 (.pointer (some ⟨g + 1, 0, none⟩)) := by subst hT; exact (by first | (simp only [At, ↓Array.getElem?_setIfInBounds_ne, ne_eq, Nat.reduceEqDiff, not_false_eq_true, q8_8]; done) | simp [At, hs8, f7_8, f8_8, f1001_8, f15_8, f16_8, f25_8, f21_8, f29_8, f33_8, f34_8, f35_8, f36_8, f37_8, f39_8, f41_8, f42_8, f43_8, f44_8])
        have f8_9 := fun hh => getq q8_9 hh
        have q1001_9 : At T9 1 (Y1) := by subst hT; exact (by first | (simp only [At, ↓Array.getElem?_setIfInBounds_ne, ne_eq, Nat.reduceEqDiff, not_false_eq_true, q1001_8]; done) | simp [At, hs8, f7_8, f8_8, f1001_8, f15_8, f16_8, f25_8, f21_8, f29_8, f33_8, f34_8, f35_8, f36_8, f37_8, f39_8, f41_8, f42_8, f43_8, f44_8])
        have f1001_9 := fun hh => getq q1001_9 hh
        have q15_9 : At T9 7 (.int .i64 N) := by subst hT; exact (by first | (simp only [At, ↓Array.getElem?_setIfInBounds_ne, ne_eq, Nat.reduceEqDiff, not_false_eq_true, q15_8]; done) | simp [At, hs8, f7_8, f8_8, f1001_8, f15_8, f16_8, f25_8, f21_8, f29_8, f33_8, f34_8, f35_8, f36_8, f37_8, f39_8, f41_8, f42_8, f43_8, f44_8])
        have f15_9 := fun hh => getq q15_9 hh
        have q16_9 : At T9 8 (.int .i64 D) := by subst hT; exact (by first | (simp only [At, ↓Array.getElem?_setIfInBounds_ne, ne_eq, Nat.reduceEqDiff, not_false_eq_true, q16_8]; done) | simp [At, hs8, f7_8, f8_8, f1001_8, f15_8, f16_8, f25_8, f21_8, f29_8, f33_8, f34_8, f35_8, f36_8, f37_8, f39_8, f41_8, f42_8, f43_8, f44_8])
        have f16_9 := fun hh => getq q16_9 hh
        clear hT f44_8 f43_8 f42_8 f41_8 f39_8 f37_8 f36_8 f35_8 f34_8 f33_8 f29_8 f21_8 f25_8 f16_8 f15_8 f1001_8 f8_8 f7_8 hs8 q7_8 q8_8 q1001_8 q15_8 q16_8 q25_8 q21_8 q29_8 q33_8 q34_8 q35_8 q36_8 q37_8 q39_8 q41_8 q42_8 q43_8 q44_8
        by_cases hD : D = 1
        · subst hD
          by_cases hac : a = c
          · subst hac
            go_wp2_with fail
            refine wp_cond_f ?_ ?_
            · go_simp
            go_wp2_with fail
            refine Met.intro (hJ _ _ ⟨_, rfl, by simp [hs9], by first | (simp only [At, ↓Array.getElem?_setIfInBounds_ne, ne_eq, Nat.reduceEqDiff, not_false_eq_true, q1001_9]; done) | simp [At, hs9, f7_9, f8_9, f1001_9, f15_9, f16_9], (by repeat (first | exact Lay.bl (Lay.tl (Lay.tl (HFw114.out))) | refine bl_drewN ?_ _))⟩)
          · have hacb : (a == c) = false := beq_eq_false_iff_ne.2 hac
            have HB6 := HB6_ rfl hac
            go_wp2_with fail
            refine wp_cond_t ?_ ?_
            · go_simp
            go_wp2_with fail
            go_wp2_with fail
            refine ((HB6 _).out).mono ?_
            rintro e w115 ⟨rfl, hb_⟩
            have HFw115 := Lib.hid (Lay.after (w := w) (B := [(g, a, b), (g + 1, c, d)]) (Lay.after (Lay.tl (Lay.tl (HFw114.out))) (by repeat (first | exact Below.refl _ _ | refine bl_alloc ?_ _ | refine bl_drewN ?_ _ | refine bl_set ?_ (by first | omega | (simp; done) | (simp; omega)) _))) hb_)
            clear hb_ c00 c01 z0 c10 c11 z1
            obtain ⟨c00, c01, z0, c10, c11, z1, hbl⟩ := Lay.op (HFw115.out)
            clear hbl
            go_wp2_with fail
            refine wp_cond_f ?_ ?_
            · go_simp
            go_wp2_with fail
            refine Met.intro (hJ _ _ ⟨_, rfl, by simp [hs9], by first | (simp only [At, ↓Array.getElem?_setIfInBounds_ne, ne_eq, Nat.reduceEqDiff, not_false_eq_true, q1001_9]; done) | simp [At, hs9, f7_9, f8_9, f1001_9, f15_9, f16_9], (by repeat (first | exact Lay.bl (HFw115.out) | refine bl_drewN ?_ _))⟩)
        · have hDb : (D == 1) = false := beq_eq_false_iff_ne.2 hD
          go_wp2_with fail
          refine wp_cond_f ?_ ?_
          · go_simp
          go_wp2_with fail
          refine Met.intro (hJ _ _ ⟨_, rfl, by simp [hs9], by first | (simp only [At, ↓Array.getElem?_setIfInBounds_ne, ne_eq, Nat.reduceEqDiff, not_false_eq_true, q1001_9]; done) | simp [At, hs9, f7_9, f8_9, f1001_9, f15_9, f16_9], (by repeat (first | exact Lay.bl (Lay.tl (Lay.tl (HFw114.out))) | refine bl_drewN ?_ _))⟩)
    case rest2 =>
      intro a' wc2 hR2
      obtain ⟨T10, rfl, hs10, q1001_10, hB2⟩ := hR2
      have f1001_10 := fun hh => getq q1001_10 hh
      have HBW := Lib.hid hB2
      clear hB2 FT
      go_wp2_with fail
      refine (DrawOrderByCorner_any _ _ (Bytes.up H1.out HBW.out)).mono ?_
      rintro e w3 ⟨p, q, r, s, rfl, hb3⟩
      have HB3 := Lib.hid (bl_trans hb3 HBW.out)
      clear hb3 HBW
      obtain ⟨S, Y, O, P, xs, ys, OC, HO1, HO2, HS1, HS2, HR1, HR2, FC_⟩ := pack_C p q r s
      have FC := Lib.hid FC_
      clear FC_
      go_wp2_with fail
      refine ((HO1 _).out).mono ?_
      rintro e w116 ⟨rfl, hb_⟩
      have HFw116 := Lib.hid (Lay.after (w := w) (B := [(w3.heap.size, p, q), (w3.heap.size + 1, r, s)]) (Lay.c (g := w3.heap.size) (x := p) (y := q) (by simp [go_sem]) (by simp [go_sem]) (by first | (simp; done) | (simp; omega)) (Lay.c (g := w3.heap.size + 1) (x := r) (y := s) (by simp [go_sem]) (by simp [go_sem]) (by first | (simp; done) | (simp; omega)) ((show Lay w [] _ from (by repeat (first | exact HB3.out | refine bl_alloc ?_ _ | refine bl_set ?_ (by first | omega | (simp; done) | (simp; omega)) _)))))) hb_)
      clear hb_
      obtain ⟨c00, c01, z0, c10, c11, z1, hbl⟩ := Lay.op (HFw116.out)
      clear hbl
      generalize w3.heap.size = g2 at *
      go_wp2_with fail
      refine ((HO2 _).out).mono ?_
      rintro e w117 ⟨rfl, hb_⟩
      have HFw117 := Lib.hid (Lay.after (w := w) (B := [(g2, p, q), (g2 + 1, r, s)]) (Lay.after (HFw116.out) (by repeat (first | exact Below.refl _ _ | refine bl_alloc ?_ _ | refine bl_drewN ?_ _ | refine bl_set ?_ (by first | omega | (simp; done) | (simp; omega)) _))) hb_)
      clear hb_ c00 c01 z0 c10 c11 z1
      obtain ⟨c00, c01, z0, c10, c11, z1, hbl⟩ := Lay.op (HFw117.out)
      clear hbl
      go_wp2_with fail
      refine ((HS1 _).out).mono ?_
      rintro e w118 ⟨rfl, hb_⟩
      have HFw118 := Lib.hid (Lay.after (w := w) (B := [(g2, p, q), (g2 + 1, r, s)]) (Lay.after (HFw117.out) (by repeat (first | exact Below.refl _ _ | refine bl_alloc ?_ _ | refine bl_drewN ?_ _ | refine bl_set ?_ (by first | omega | (simp; done) | (simp; omega)) _))) hb_)
      clear hb_ c00 c01 z0 c10 c11 z1
      obtain ⟨c00, c01, z0, c10, c11, z1, hbl⟩ := Lay.op (HFw118.out)
      clear hbl
      go_wp2_with fail
      refine ((HS2 _).out).mono ?_
      rintro e w119 ⟨rfl, hb_⟩
      have HFw119 := Lib.hid (Lay.after (w := w) (B := [(g2, p, q), (g2 + 1, r, s)]) (Lay.after (HFw118.out) (by repeat (first | exact Below.refl _ _ | refine bl_alloc ?_ _ | refine bl_drewN ?_ _ | refine bl_set ?_ (by first | omega | (simp; done) | (simp; omega)) _))) hb_)
      clear hb_ c00 c01 z0 c10 c11 z1
      obtain ⟨c00, c01, z0, c10, c11, z1, hbl⟩ := Lay.op (HFw119.out)
      clear hbl
      go_upto_region 31 with fail
      refine reframe fun T11 hT => ?_
      have hs11 : T11.size = 636 := by subst hT; simp [hs10]
      have q1001_11 : At T11 1 (Y1) := by subst hT; exact (by first | (simp only [At, ↓Array.getElem?_setIfInBounds_ne, ne_eq, Nat.reduceEqDiff, not_false_eq_true, q1001_10]; done) | simp [At, hs10, f1001_10])
      have f1001_11 := fun hh => getq q1001_11 hh
      have q9_11 : At T11 40 (.pointer (some ⟨g2, 0, none⟩)) := by subst hT; exact (by first | (simp only [At, ↓Array.getElem?_setIfInBounds_ne, ne_eq, Nat.reduceEqDiff, not_false_eq_true]; done) | simp [At, hs10, f1001_10])
      have f9_11 := fun hh => getq q9_11 hh
      have q10_11 : At T11 41 (.pointer (some ⟨g2 + 1, 0, none⟩)) := by subst hT; exact (by first | (simp only [At, ↓Array.getElem?_setIfInBounds_ne, ne_eq, Nat.reduceEqDiff, not_false_eq_true]; done) | simp [At, hs10, f1001_10])
      have f10_11 := fun hh => getq q10_11 hh
      have q48_11 : At T11 42 (.string O) := by subst hT; exact (by first | (simp only [At, ↓Array.getElem?_setIfInBounds_ne, ne_eq, Nat.reduceEqDiff, not_false_eq_true]; done) | simp [At, hs10, f1001_10])
      have f48_11 := fun hh => getq q48_11 hh
      have q49_11 : At T11 43 (.bool OC) := by subst hT; exact (by first | (simp only [At, ↓Array.getElem?_setIfInBounds_ne, ne_eq, Nat.reduceEqDiff, not_false_eq_true]; done) | simp [At, hs10, f1001_10])
      have f49_11 := fun hh => getq q49_11 hh
      have q50_11 : At T11 44 (.string O) := by subst hT; exact (by first | (simp only [At, ↓Array.getElem?_setIfInBounds_ne, ne_eq, Nat.reduceEqDiff, not_false_eq_true]; done) | simp [At, hs10, f1001_10])
      have f50_11 := fun hh => getq q50_11 hh
      have q51_11 : At T11 45 (.bool OC) := by subst hT; exact (by first | (simp only [At, ↓Array.getElem?_setIfInBounds_ne, ne_eq, Nat.reduceEqDiff, not_false_eq_true]; done) | simp [At, hs10, f1001_10])
      have f51_11 := fun hh => getq q51_11 hh
      have q52_11 : At T11 46 (.int .i64 S) := by subst hT; exact (by first | (simp only [At, ↓Array.getElem?_setIfInBounds_ne, ne_eq, Nat.reduceEqDiff, not_false_eq_true]; done) | simp [At, hs10, f1001_10])
      have f52_11 := fun hh => getq q52_11 hh
      have q53_11 : At T11 47 (.bool OC) := by subst hT; exact (by first | (simp only [At, ↓Array.getElem?_setIfInBounds_ne, ne_eq, Nat.reduceEqDiff, not_false_eq_true]; done) | simp [At, hs10, f1001_10])
      have f53_11 := fun hh => getq q53_11 hh
      have q54_11 : At T11 48 (.int .i64 S) := by subst hT; exact (by first | (simp only [At, ↓Array.getElem?_setIfInBounds_ne, ne_eq, Nat.reduceEqDiff, not_false_eq_true]; done) | simp [At, hs10, f1001_10])
      have f54_11 := fun hh => getq q54_11 hh
      have q55_11 : At T11 49 (.bool OC) := by subst hT; exact (by first | (simp only [At, ↓Array.getElem?_setIfInBounds_ne, ne_eq, Nat.reduceEqDiff, not_false_eq_true]; done) | simp [At, hs10, f1001_10])
      have f55_11 := fun hh => getq q55_11 hh
      clear hT f1001_10 hs10 q1001_10
      go_wp2_with fail
      refine ((HR1 _).out).mono ?_
      rintro e w120 ⟨V1, U1, rfl, hI1, hJ1, hD1, hb_⟩
      have HFw120 := Lib.hid (Lay.after (w := w) (B := [(g2, p, q), (g2 + 1, r, s)]) (Lay.after (HFw119.out) (by repeat (first | exact Below.refl _ _ | refine bl_alloc ?_ _ | refine bl_drewN ?_ _ | refine bl_set ?_ (by first | omega | (simp; done) | (simp; omega)) _))) hb_)
      clear hb_ c00 c01 z0 c10 c11 z1
      obtain ⟨c00, c01, z0, c10, c11, z1, hbl⟩ := Lay.op (HFw120.out)
      clear hbl
      clear hD1
      have HI1 := Lib.hid hI1
      have HJ1 := Lib.hid hJ1
      clear hI1 hJ1
      go_wp2_with fail
      refine ((HR2 _).out).mono ?_
      rintro e w121 ⟨V2, U2, rfl, hI2, hJ2, hD2, hb_⟩
      have HFw121 := Lib.hid (Lay.after (w := w) (B := [(g2, p, q), (g2 + 1, r, s)]) (Lay.after (HFw120.out) (by repeat (first | exact Below.refl _ _ | refine bl_alloc ?_ _ | refine bl_drewN ?_ _ | refine bl_set ?_ (by first | omega | (simp; done) | (simp; omega)) _))) hb_)
      have HI1_w121 := Lib.hid (IRow.keep HI1.out (bl_trans hb_ (by repeat (first | exact Below.refl _ _ | refine bl_alloc ?_ _ | refine bl_drewN ?_ _ | refine bl_set ?_ (by first | omega | (simp; done) | (simp; omega)) _))))
      have HJ1_w121 := Lib.hid (IRow.keep HJ1.out (bl_trans hb_ (by repeat (first | exact Below.refl _ _ | refine bl_alloc ?_ _ | refine bl_drewN ?_ _ | refine bl_set ?_ (by first | omega | (simp; done) | (simp; omega)) _))))
      clear hb_ c00 c01 z0 c10 c11 z1
      obtain ⟨c00, c01, z0, c10, c11, z1, hbl⟩ := Lay.op (HFw121.out)
      clear hbl
      clear hD2
      have HI2 := Lib.hid hI2
      have HJ2 := Lib.hid hJ2
      clear hI2 hJ2
      go_upto_region 33 with fail
      refine reframe fun T12 hT => ?_
      have hs12 : T12.size = 636 := by subst hT; simp [hs11]
      have q1001_12 : At T12 1 (Y1) := by subst hT; exact (by first | (simp only [At, ↓Array.getElem?_setIfInBounds_ne, ne_eq, Nat.reduceEqDiff, not_false_eq_true, q1001_11]; done) | simp [At, hs11, f1001_11, f9_11, f10_11, f48_11, f49_11, f50_11, f51_11, f52_11, f53_11, f54_11, f55_11])
      have f1001_12 := fun hh => getq q1001_12 hh
      have q9_12 : At T12 40 (.pointer (some ⟨g2, 0, none⟩)) := by subst hT; exact (by first | (simp only [At, ↓Array.getElem?_setIfInBounds_ne, ne_eq, Nat.reduceEqDiff, not_false_eq_true, q9_11]; done) | simp [At, hs11, f1001_11, f9_11, f10_11, f48_11, f49_11, f50_11, f51_11, f52_11, f53_11, f54_11, f55_11])
      have f9_12 := fun hh => getq q9_12 hh
      have q10_12 : At T12 41 (.pointer (some ⟨g2 + 1, 0, none⟩)) := by subst hT; exact (by first | (simp only [At, ↓Array.getElem?_setIfInBounds_ne, ne_eq, Nat.reduceEqDiff, not_false_eq_true, q10_11]; done) | simp [At, hs11, f1001_11, f9_11, f10_11, f48_11, f49_11, f50_11, f51_11, f52_11, f53_11, f54_11, f55_11])
      have f10_12 := fun hh => getq q10_12 hh
      have q48_12 : At T12 42 (.string O) := by subst hT; exact (by first | (simp only [At, ↓Array.getElem?_setIfInBounds_ne, ne_eq, Nat.reduceEqDiff, not_false_eq_true, q48_11]; done) | simp [At, hs11, f1001_11, f9_11, f10_11, f48_11, f49_11, f50_11, f51_11, f52_11, f53_11, f54_11, f55_11])
      have f48_12 := fun hh => getq q48_12 hh
      have q49_12 : At T12 43 (.bool OC) := by subst hT; exact (by first | (simp only [At, ↓Array.getElem?_setIfInBounds_ne, ne_eq, Nat.reduceEqDiff, not_false_eq_true, q49_11]; done) | simp [At, hs11, f1001_11, f9_11, f10_11, f48_11, f49_11, f50_11, f51_11, f52_11, f53_11, f54_11, f55_11])
      have f49_12 := fun hh => getq q49_12 hh
      have q50_12 : At T12 44 (.string O) := by subst hT; exact (by first | (simp only [At, ↓Array.getElem?_setIfInBounds_ne, ne_eq, Nat.reduceEqDiff, not_false_eq_true, q50_11]; done) | simp [At, hs11, f1001_11, f9_11, f10_11, f48_11, f49_11, f50_11, f51_11, f52_11, f53_11, f54_11, f55_11])
      have f50_12 := fun hh => getq q50_12 hh
      have q51_12 : At T12 45 (.bool OC) := by subst hT; exact (by first | (simp only [At, ↓Array.getElem?_setIfInBounds_ne, ne_eq, Nat.reduceEqDiff, not_false_eq_true, q51_11]; done) | simp [At, hs11, f1001_11, f9_11, f10_11, f48_11, f49_11, f50_11, f51_11, f52_11, f53_11, f54_11, f55_11])
      have f51_12 := fun hh => getq q51_12 hh
      have q52_12 : At T12 46 (.int .i64 S) := by subst hT; exact (by first | (simp only [At, ↓Array.getElem?_setIfInBounds_ne, ne_eq, Nat.reduceEqDiff, not_false_eq_true, q52_11]; done) | simp [At, hs11, f1001_11, f9_11, f10_11, f48_11, f49_11, f50_11, f51_11, f52_11, f53_11, f54_11, f55_11])
      have f52_12 := fun hh => getq q52_12 hh
      have q53_12 : At T12 47 (.bool OC) := by subst hT; exact (by first | (simp only [At, ↓Array.getElem?_setIfInBounds_ne, ne_eq, Nat.reduceEqDiff, not_false_eq_true, q53_11]; done) | simp [At, hs11, f1001_11, f9_11, f10_11, f48_11, f49_11, f50_11, f51_11, f52_11, f53_11, f54_11, f55_11])
      have f53_12 := fun hh => getq q53_12 hh
      have q54_12 : At T12 48 (.int .i64 S) := by subst hT; exact (by first | (simp only [At, ↓Array.getElem?_setIfInBounds_ne, ne_eq, Nat.reduceEqDiff, not_false_eq_true, q54_11]; done) | simp [At, hs11, f1001_11, f9_11, f10_11, f48_11, f49_11, f50_11, f51_11, f52_11, f53_11, f54_11, f55_11])
      have f54_12 := fun hh => getq q54_12 hh
      have q55_12 : At T12 49 (.bool OC) := by subst hT; exact (by first | (simp only [At, ↓Array.getElem?_setIfInBounds_ne, ne_eq, Nat.reduceEqDiff, not_false_eq_true, q55_11]; done) | simp [At, hs11, f1001_11, f9_11, f10_11, f48_11, f49_11, f50_11, f51_11, f52_11, f53_11, f54_11, f55_11])
      have f55_12 := fun hh => getq q55_12 hh
      have q56_12 : At T12 50 (V1) := by subst hT; exact (by first | (simp only [At, ↓Array.getElem?_setIfInBounds_ne, ne_eq, Nat.reduceEqDiff, not_false_eq_true]; done) | simp [At, hs11, f1001_11, f9_11, f10_11, f48_11, f49_11, f50_11, f51_11, f52_11, f53_11, f54_11, f55_11])
      have f56_12 := fun hh => getq q56_12 hh
      have q57_12 : At T12 51 (U1) := by subst hT; exact (by first | (simp only [At, ↓Array.getElem?_setIfInBounds_ne, ne_eq, Nat.reduceEqDiff, not_false_eq_true]; done) | simp [At, hs11, f1001_11, f9_11, f10_11, f48_11, f49_11, f50_11, f51_11, f52_11, f53_11, f54_11, f55_11])
      have f57_12 := fun hh => getq q57_12 hh
      have q58_12 : At T12 52 (.bool OC) := by subst hT; exact (by first | (simp only [At, ↓Array.getElem?_setIfInBounds_ne, ne_eq, Nat.reduceEqDiff, not_false_eq_true]; done) | simp [At, hs11, f1001_11, f9_11, f10_11, f48_11, f49_11, f50_11, f51_11, f52_11, f53_11, f54_11, f55_11])
      have f58_12 := fun hh => getq q58_12 hh
      have q59_12 : At T12 53 (V2) := by subst hT; exact (by first | (simp only [At, ↓Array.getElem?_setIfInBounds_ne, ne_eq, Nat.reduceEqDiff, not_false_eq_true]; done) | simp [At, hs11, f1001_11, f9_11, f10_11, f48_11, f49_11, f50_11, f51_11, f52_11, f53_11, f54_11, f55_11])
      have f59_12 := fun hh => getq q59_12 hh
      have q60_12 : At T12 54 (U2) := by subst hT; exact (by first | (simp only [At, ↓Array.getElem?_setIfInBounds_ne, ne_eq, Nat.reduceEqDiff, not_false_eq_true]; done) | simp [At, hs11, f1001_11, f9_11, f10_11, f48_11, f49_11, f50_11, f51_11, f52_11, f53_11, f54_11, f55_11])
      have f60_12 := fun hh => getq q60_12 hh
      have q61_12 : At T12 55 (.bool OC) := by subst hT; exact (by first | (simp only [At, ↓Array.getElem?_setIfInBounds_ne, ne_eq, Nat.reduceEqDiff, not_false_eq_true]; done) | simp [At, hs11, f1001_11, f9_11, f10_11, f48_11, f49_11, f50_11, f51_11, f52_11, f53_11, f54_11, f55_11])
      have f61_12 := fun hh => getq q61_12 hh
      clear hT f55_11 f54_11 f53_11 f52_11 f51_11 f50_11 f49_11 f48_11 f10_11 f9_11 f1001_11 hs11 q1001_11 q9_11 q10_11 q48_11 q49_11 q50_11 q51_11 q52_11 q53_11 q54_11 q55_11
      go_wp2_with fail
      refine (DrawHeightForTouch_any _ _ (Bytes.up H1.out (Lay.bl (HFw121.out)))).mono ?_
      rintro e w5 ⟨u, v, x, y, rfl, hb_⟩
      obtain ⟨H, E, rr, ss, OH, HH1, HH2, FH_⟩ := pack_H u v x y
      have FH := Lib.hid FH_
      clear FH_
      have HF5 := Lib.hid (Lay.after (HFw121.out) hb_)
      have HI1_5 := Lib.hid (IRow.keep HI1_w121.out hb_)
      have HJ1_5 := Lib.hid (IRow.keep HJ1_w121.out hb_)
      have HI2_5 := Lib.hid (IRow.keep HI2.out hb_)
      have HJ2_5 := Lib.hid (IRow.keep HJ2.out hb_)
      clear hb_ c00 c01 z0 c10 c11 z1
      obtain ⟨c00, c01, z0, c10, c11, z1, hbl⟩ := Lay.op (HF5.out)
      clear hbl
      go_wp2_with fail
      refine ((HH1 _).out).mono ?_
      rintro e w122 ⟨rfl, hb_⟩
      have HFw122 := Lib.hid (Lay.after (w := w) (B := [(w5.heap.size, u, v), (g2, p, q), (g2 + 1, r, s)]) (Lay.c (g := w5.heap.size) (x := u) (y := v) (by simp [go_sem]) (by simp [go_sem]) (by first | (simp; done) | (simp; omega)) (Lay.after (HF5.out) (by repeat (first | exact Below.refl _ _ | refine bl_alloc ?_ _ | refine bl_drewN ?_ _ | refine bl_set ?_ (by first | omega | (simp; done) | (simp; omega)) _)))) hb_)
      have HI1_w122 := Lib.hid (IRow.keep HI1_5.out (bl_trans hb_ (by repeat (first | exact Below.refl _ _ | refine bl_alloc ?_ _ | refine bl_drewN ?_ _ | refine bl_set ?_ (by first | omega | (simp; done) | (simp; omega)) _))))
      have HJ1_w122 := Lib.hid (IRow.keep HJ1_5.out (bl_trans hb_ (by repeat (first | exact Below.refl _ _ | refine bl_alloc ?_ _ | refine bl_drewN ?_ _ | refine bl_set ?_ (by first | omega | (simp; done) | (simp; omega)) _))))
      have HI2_w122 := Lib.hid (IRow.keep HI2_5.out (bl_trans hb_ (by repeat (first | exact Below.refl _ _ | refine bl_alloc ?_ _ | refine bl_drewN ?_ _ | refine bl_set ?_ (by first | omega | (simp; done) | (simp; omega)) _))))
      have HJ2_w122 := Lib.hid (IRow.keep HJ2_5.out (bl_trans hb_ (by repeat (first | exact Below.refl _ _ | refine bl_alloc ?_ _ | refine bl_drewN ?_ _ | refine bl_set ?_ (by first | omega | (simp; done) | (simp; omega)) _))))
      clear hb_ c00 c01 z0 c10 c11 z1
      obtain ⟨c00, c01, z0, c10, c11, z1, c20, c21, z2, hbl⟩ := Lay.op (HFw122.out)
      clear hbl
      generalize w5.heap.size = g3 at *
      go_wp2_with fail
      refine ((HH2 _).out).mono ?_
      rintro e w123 ⟨rfl, hb_⟩
      have HFw123 := Lib.hid (Lay.after (w := w) (B := [(g3, u, v), (g2, p, q), (g2 + 1, r, s)]) (Lay.after (HFw122.out) (by repeat (first | exact Below.refl _ _ | refine bl_alloc ?_ _ | refine bl_drewN ?_ _ | refine bl_set ?_ (by first | omega | (simp; done) | (simp; omega)) _))) hb_)
      have HI1_w123 := Lib.hid (IRow.keep HI1_w122.out (bl_trans hb_ (by repeat (first | exact Below.refl _ _ | refine bl_alloc ?_ _ | refine bl_drewN ?_ _ | refine bl_set ?_ (by first | omega | (simp; done) | (simp; omega)) _))))
      have HJ1_w123 := Lib.hid (IRow.keep HJ1_w122.out (bl_trans hb_ (by repeat (first | exact Below.refl _ _ | refine bl_alloc ?_ _ | refine bl_drewN ?_ _ | refine bl_set ?_ (by first | omega | (simp; done) | (simp; omega)) _))))
      have HI2_w123 := Lib.hid (IRow.keep HI2_w122.out (bl_trans hb_ (by repeat (first | exact Below.refl _ _ | refine bl_alloc ?_ _ | refine bl_drewN ?_ _ | refine bl_set ?_ (by first | omega | (simp; done) | (simp; omega)) _))))
      have HJ2_w123 := Lib.hid (IRow.keep HJ2_w122.out (bl_trans hb_ (by repeat (first | exact Below.refl _ _ | refine bl_alloc ?_ _ | refine bl_drewN ?_ _ | refine bl_set ?_ (by first | omega | (simp; done) | (simp; omega)) _))))
      clear hb_ c00 c01 z0 c10 c11 z1 c20 c21 z2
      obtain ⟨c00, c01, z0, c10, c11, z1, c20, c21, z2, hbl⟩ := Lay.op (HFw123.out)
      clear hbl
      go_upto_region 36 with fail
      refine reframe fun T13 hT => ?_
      have hs13 : T13.size = 636 := by subst hT; simp [hs12]
      have q9_13 : At T13 40 (.pointer (some ⟨g2, 0, none⟩)) := by subst hT; exact (by first | (simp only [At, ↓Array.getElem?_setIfInBounds_ne, ne_eq, Nat.reduceEqDiff, not_false_eq_true, q9_12]; done) | simp [At, hs12, f1001_12, f9_12, f10_12, f48_12, f49_12, f50_12, f51_12, f52_12, f53_12, f54_12, f55_12, f56_12, f57_12, f58_12, f59_12, f60_12, f61_12])
      have f9_13 := fun hh => getq q9_13 hh
      have q10_13 : At T13 41 (.pointer (some ⟨g2 + 1, 0, none⟩)) := by subst hT; exact (by first | (simp only [At, ↓Array.getElem?_setIfInBounds_ne, ne_eq, Nat.reduceEqDiff, not_false_eq_true, q10_12]; done) | simp [At, hs12, f1001_12, f9_12, f10_12, f48_12, f49_12, f50_12, f51_12, f52_12, f53_12, f54_12, f55_12, f56_12, f57_12, f58_12, f59_12, f60_12, f61_12])
      have f10_13 := fun hh => getq q10_13 hh
      have q48_13 : At T13 42 (.string O) := by subst hT; exact (by first | (simp only [At, ↓Array.getElem?_setIfInBounds_ne, ne_eq, Nat.reduceEqDiff, not_false_eq_true, q48_12]; done) | simp [At, hs12, f1001_12, f9_12, f10_12, f48_12, f49_12, f50_12, f51_12, f52_12, f53_12, f54_12, f55_12, f56_12, f57_12, f58_12, f59_12, f60_12, f61_12])
      have f48_13 := fun hh => getq q48_13 hh
      have q49_13 : At T13 43 (.bool OC) := by subst hT; exact (by first | (simp only [At, ↓Array.getElem?_setIfInBounds_ne, ne_eq, Nat.reduceEqDiff, not_false_eq_true, q49_12]; done) | simp [At, hs12, f1001_12, f9_12, f10_12, f48_12, f49_12, f50_12, f51_12, f52_12, f53_12, f54_12, f55_12, f56_12, f57_12, f58_12, f59_12, f60_12, f61_12])
      have f49_13 := fun hh => getq q49_13 hh
      have q50_13 : At T13 44 (.string O) := by subst hT; exact (by first | (simp only [At, ↓Array.getElem?_setIfInBounds_ne, ne_eq, Nat.reduceEqDiff, not_false_eq_true, q50_12]; done) | simp [At, hs12, f1001_12, f9_12, f10_12, f48_12, f49_12, f50_12, f51_12, f52_12, f53_12, f54_12, f55_12, f56_12, f57_12, f58_12, f59_12, f60_12, f61_12])
      have f50_13 := fun hh => getq q50_13 hh
      have q51_13 : At T13 45 (.bool OC) := by subst hT; exact (by first | (simp only [At, ↓Array.getElem?_setIfInBounds_ne, ne_eq, Nat.reduceEqDiff, not_false_eq_true, q51_12]; done) | simp [At, hs12, f1001_12, f9_12, f10_12, f48_12, f49_12, f50_12, f51_12, f52_12, f53_12, f54_12, f55_12, f56_12, f57_12, f58_12, f59_12, f60_12, f61_12])
      have f51_13 := fun hh => getq q51_13 hh
      have q52_13 : At T13 46 (.int .i64 S) := by subst hT; exact (by first | (simp only [At, ↓Array.getElem?_setIfInBounds_ne, ne_eq, Nat.reduceEqDiff, not_false_eq_true, q52_12]; done) | simp [At, hs12, f1001_12, f9_12, f10_12, f48_12, f49_12, f50_12, f51_12, f52_12, f53_12, f54_12, f55_12, f56_12, f57_12, f58_12, f59_12, f60_12, f61_12])
      have f52_13 := fun hh => getq q52_13 hh
      have q53_13 : At T13 47 (.bool OC) := by subst hT; exact (by first | (simp only [At, ↓Array.getElem?_setIfInBounds_ne, ne_eq, Nat.reduceEqDiff, not_false_eq_true, q53_12]; done) | simp [At, hs12, f1001_12, f9_12, f10_12, f48_12, f49_12, f50_12, f51_12, f52_12, f53_12, f54_12, f55_12, f56_12, f57_12, f58_12, f59_12, f60_12, f61_12])
      have f53_13 := fun hh => getq q53_13 hh
      have q54_13 : At T13 48 (.int .i64 S) := by subst hT; exact (by first | (simp only [At, ↓Array.getElem?_setIfInBounds_ne, ne_eq, Nat.reduceEqDiff, not_false_eq_true, q54_12]; done) | simp [At, hs12, f1001_12, f9_12, f10_12, f48_12, f49_12, f50_12, f51_12, f52_12, f53_12, f54_12, f55_12, f56_12, f57_12, f58_12, f59_12, f60_12, f61_12])
      have f54_13 := fun hh => getq q54_13 hh
      have q55_13 : At T13 49 (.bool OC) := by subst hT; exact (by first | (simp only [At, ↓Array.getElem?_setIfInBounds_ne, ne_eq, Nat.reduceEqDiff, not_false_eq_true, q55_12]; done) | simp [At, hs12, f1001_12, f9_12, f10_12, f48_12, f49_12, f50_12, f51_12, f52_12, f53_12, f54_12, f55_12, f56_12, f57_12, f58_12, f59_12, f60_12, f61_12])
      have f55_13 := fun hh => getq q55_13 hh
      have q56_13 : At T13 50 (V1) := by subst hT; exact (by first | (simp only [At, ↓Array.getElem?_setIfInBounds_ne, ne_eq, Nat.reduceEqDiff, not_false_eq_true, q56_12]; done) | simp [At, hs12, f1001_12, f9_12, f10_12, f48_12, f49_12, f50_12, f51_12, f52_12, f53_12, f54_12, f55_12, f56_12, f57_12, f58_12, f59_12, f60_12, f61_12])
      have f56_13 := fun hh => getq q56_13 hh
      have q57_13 : At T13 51 (U1) := by subst hT; exact (by first | (simp only [At, ↓Array.getElem?_setIfInBounds_ne, ne_eq, Nat.reduceEqDiff, not_false_eq_true, q57_12]; done) | simp [At, hs12, f1001_12, f9_12, f10_12, f48_12, f49_12, f50_12, f51_12, f52_12, f53_12, f54_12, f55_12, f56_12, f57_12, f58_12, f59_12, f60_12, f61_12])
      have f57_13 := fun hh => getq q57_13 hh
      have q58_13 : At T13 52 (.bool OC) := by subst hT; exact (by first | (simp only [At, ↓Array.getElem?_setIfInBounds_ne, ne_eq, Nat.reduceEqDiff, not_false_eq_true, q58_12]; done) | simp [At, hs12, f1001_12, f9_12, f10_12, f48_12, f49_12, f50_12, f51_12, f52_12, f53_12, f54_12, f55_12, f56_12, f57_12, f58_12, f59_12, f60_12, f61_12])
      have f58_13 := fun hh => getq q58_13 hh
      have q59_13 : At T13 53 (V2) := by subst hT; exact (by first | (simp only [At, ↓Array.getElem?_setIfInBounds_ne, ne_eq, Nat.reduceEqDiff, not_false_eq_true, q59_12]; done) | simp [At, hs12, f1001_12, f9_12, f10_12, f48_12, f49_12, f50_12, f51_12, f52_12, f53_12, f54_12, f55_12, f56_12, f57_12, f58_12, f59_12, f60_12, f61_12])
      have f59_13 := fun hh => getq q59_13 hh
      have q60_13 : At T13 54 (U2) := by subst hT; exact (by first | (simp only [At, ↓Array.getElem?_setIfInBounds_ne, ne_eq, Nat.reduceEqDiff, not_false_eq_true, q60_12]; done) | simp [At, hs12, f1001_12, f9_12, f10_12, f48_12, f49_12, f50_12, f51_12, f52_12, f53_12, f54_12, f55_12, f56_12, f57_12, f58_12, f59_12, f60_12, f61_12])
      have f60_13 := fun hh => getq q60_13 hh
      have q61_13 : At T13 55 (.bool OC) := by subst hT; exact (by first | (simp only [At, ↓Array.getElem?_setIfInBounds_ne, ne_eq, Nat.reduceEqDiff, not_false_eq_true, q61_12]; done) | simp [At, hs12, f1001_12, f9_12, f10_12, f48_12, f49_12, f50_12, f51_12, f52_12, f53_12, f54_12, f55_12, f56_12, f57_12, f58_12, f59_12, f60_12, f61_12])
      have f61_13 := fun hh => getq q61_13 hh
      have q11_13 : At T13 56 (.pointer (some ⟨g3, 0, none⟩)) := by subst hT; exact (by first | (simp only [At, ↓Array.getElem?_setIfInBounds_ne, ne_eq, Nat.reduceEqDiff, not_false_eq_true]; done) | simp [At, hs12, f1001_12, f9_12, f10_12, f48_12, f49_12, f50_12, f51_12, f52_12, f53_12, f54_12, f55_12, f56_12, f57_12, f58_12, f59_12, f60_12, f61_12])
      have f11_13 := fun hh => getq q11_13 hh
      have q5_13 : At T13 57 (.int .i64 x) := by subst hT; exact (by first | (simp only [At, ↓Array.getElem?_setIfInBounds_ne, ne_eq, Nat.reduceEqDiff, not_false_eq_true]; done) | simp [At, hs12, f1001_12, f9_12, f10_12, f48_12, f49_12, f50_12, f51_12, f52_12, f53_12, f54_12, f55_12, f56_12, f57_12, f58_12, f59_12, f60_12, f61_12])
      have f5_13 := fun hh => getq q5_13 hh
      have q6_13 : At T13 58 (.int .i64 y) := by subst hT; exact (by first | (simp only [At, ↓Array.getElem?_setIfInBounds_ne, ne_eq, Nat.reduceEqDiff, not_false_eq_true]; done) | simp [At, hs12, f1001_12, f9_12, f10_12, f48_12, f49_12, f50_12, f51_12, f52_12, f53_12, f54_12, f55_12, f56_12, f57_12, f58_12, f59_12, f60_12, f61_12])
      have f6_13 := fun hh => getq q6_13 hh
      have q62_13 : At T13 59 (.int .i64 H) := by subst hT; exact (by first | (simp only [At, ↓Array.getElem?_setIfInBounds_ne, ne_eq, Nat.reduceEqDiff, not_false_eq_true]; done) | simp [At, hs12, f1001_12, f9_12, f10_12, f48_12, f49_12, f50_12, f51_12, f52_12, f53_12, f54_12, f55_12, f56_12, f57_12, f58_12, f59_12, f60_12, f61_12])
      have f62_13 := fun hh => getq q62_13 hh
      have q63_13 : At T13 60 (.int .i64 E) := by subst hT; exact (by first | (simp only [At, ↓Array.getElem?_setIfInBounds_ne, ne_eq, Nat.reduceEqDiff, not_false_eq_true]; done) | simp [At, hs12, f1001_12, f9_12, f10_12, f48_12, f49_12, f50_12, f51_12, f52_12, f53_12, f54_12, f55_12, f56_12, f57_12, f58_12, f59_12, f60_12, f61_12])
      have f63_13 := fun hh => getq q63_13 hh
      have q64_13 : At T13 61 (.bool OH) := by subst hT; exact (by first | (simp only [At, ↓Array.getElem?_setIfInBounds_ne, ne_eq, Nat.reduceEqDiff, not_false_eq_true]; done) | simp [At, hs12, f1001_12, f9_12, f10_12, f48_12, f49_12, f50_12, f51_12, f52_12, f53_12, f54_12, f55_12, f56_12, f57_12, f58_12, f59_12, f60_12, f61_12])
      have f64_13 := fun hh => getq q64_13 hh
      have q65_13 : At T13 62 (.int .i64 H) := by subst hT; exact (by first | (simp only [At, ↓Array.getElem?_setIfInBounds_ne, ne_eq, Nat.reduceEqDiff, not_false_eq_true]; done) | simp [At, hs12, f1001_12, f9_12, f10_12, f48_12, f49_12, f50_12, f51_12, f52_12, f53_12, f54_12, f55_12, f56_12, f57_12, f58_12, f59_12, f60_12, f61_12])
      have f65_13 := fun hh => getq q65_13 hh
      have q66_13 : At T13 63 (.int .i64 E) := by subst hT; exact (by first | (simp only [At, ↓Array.getElem?_setIfInBounds_ne, ne_eq, Nat.reduceEqDiff, not_false_eq_true]; done) | simp [At, hs12, f1001_12, f9_12, f10_12, f48_12, f49_12, f50_12, f51_12, f52_12, f53_12, f54_12, f55_12, f56_12, f57_12, f58_12, f59_12, f60_12, f61_12])
      have f66_13 := fun hh => getq q66_13 hh
      have q67_13 : At T13 64 (.bool OH) := by subst hT; exact (by first | (simp only [At, ↓Array.getElem?_setIfInBounds_ne, ne_eq, Nat.reduceEqDiff, not_false_eq_true]; done) | simp [At, hs12, f1001_12, f9_12, f10_12, f48_12, f49_12, f50_12, f51_12, f52_12, f53_12, f54_12, f55_12, f56_12, f57_12, f58_12, f59_12, f60_12, f61_12])
      have f67_13 := fun hh => getq q67_13 hh
      clear hT f61_12 f60_12 f59_12 f58_12 f57_12 f56_12 f55_12 f54_12 f53_12 f52_12 f51_12 f50_12 f49_12 f48_12 f10_12 f9_12 f1001_12 hs12 q1001_12 q9_12 q10_12 q48_12 q49_12 q50_12 q51_12 q52_12 q53_12 q54_12 q55_12 q56_12 q57_12 q58_12 q59_12 q60_12 q61_12
      clear HO1 HO2 HS1 HS2 HR1 HR2 HH1 HH2
      refine wp_cut (fun a' wx => ∃ T : Array Value, a' = ⟨T, []⟩ ∧ T.size = 636 ∧ At T 57 (.int .i64 x) ∧ At T 58 (.int .i64 y) ∧ At T 40 (.pointer (some ⟨g2, 0, none⟩)) ∧ At T 41 (.pointer (some ⟨g2 + 1, 0, none⟩)) ∧ At T 56 (.pointer (some ⟨g3, 0, none⟩)) ∧ At T 42 (.string O) ∧ At T 43 (.bool OC) ∧ At T 46 (.int .i64 S) ∧ At T 50 (V1) ∧ At T 51 (U1) ∧ At T 59 (.int .i64 H) ∧ At T 60 (.int .i64 E) ∧ At T 61 (.bool OH) ∧ At T 476 (.bool false) ∧ Lay w [(g3, u, v), (g2, p, q), (g2 + 1, r, s)] wx ∧ (∃ B, IRow wx B V1 xs) ∧ ∃ B, IRow wx B U1 ys) ?rest3 ?first3
      case first3 =>
        intro J K' hJ hK
        clear FC FH
        go_wp2_with fail
        refine (jSame_any _ _ _ _ _ _ HI1_w123.out HI2_w123.out).mono ?_
        rintro e w' ⟨rfl, nA, rfl⟩
        go_wp2_with fail
        refine (jSame_any _ _ _ _ _ (World.drewN _ nA) (IRow.keep HJ1_w123.out (below_drewN (Below.refl _ _) _)) (IRow.keep HJ2_w123.out (below_drewN (Below.refl _ _) _))).mono ?_
        rintro e w' ⟨rfl, nB, rfl⟩
        go_wp2_with fail
        refine Met.intro (hJ _ _ ⟨_, rfl, by simp [hs13], by first | (simp only [At, ↓Array.getElem?_setIfInBounds_ne, ne_eq, Nat.reduceEqDiff, not_false_eq_true, q5_13]; done) | simp [At, hs13, f9_13, f10_13, f48_13, f49_13, f50_13, f51_13, f52_13, f53_13, f54_13, f55_13, f56_13, f57_13, f58_13, f59_13, f60_13, f61_13, f11_13, f5_13, f6_13, f62_13, f63_13, f64_13, f65_13, f66_13, f67_13], by first | (simp only [At, ↓Array.getElem?_setIfInBounds_ne, ne_eq, Nat.reduceEqDiff, not_false_eq_true, q6_13]; done) | simp [At, hs13, f9_13, f10_13, f48_13, f49_13, f50_13, f51_13, f52_13, f53_13, f54_13, f55_13, f56_13, f57_13, f58_13, f59_13, f60_13, f61_13, f11_13, f5_13, f6_13, f62_13, f63_13, f64_13, f65_13, f66_13, f67_13], by first | (simp only [At, ↓Array.getElem?_setIfInBounds_ne, ne_eq, Nat.reduceEqDiff, not_false_eq_true, q9_13]; done) | simp [At, hs13, f9_13, f10_13, f48_13, f49_13, f50_13, f51_13, f52_13, f53_13, f54_13, f55_13, f56_13, f57_13, f58_13, f59_13, f60_13, f61_13, f11_13, f5_13, f6_13, f62_13, f63_13, f64_13, f65_13, f66_13, f67_13], by first | (simp only [At, ↓Array.getElem?_setIfInBounds_ne, ne_eq, Nat.reduceEqDiff, not_false_eq_true, q10_13]; done) | simp [At, hs13, f9_13, f10_13, f48_13, f49_13, f50_13, f51_13, f52_13, f53_13, f54_13, f55_13, f56_13, f57_13, f58_13, f59_13, f60_13, f61_13, f11_13, f5_13, f6_13, f62_13, f63_13, f64_13, f65_13, f66_13, f67_13], by first | (simp only [At, ↓Array.getElem?_setIfInBounds_ne, ne_eq, Nat.reduceEqDiff, not_false_eq_true, q11_13]; done) | simp [At, hs13, f9_13, f10_13, f48_13, f49_13, f50_13, f51_13, f52_13, f53_13, f54_13, f55_13, f56_13, f57_13, f58_13, f59_13, f60_13, f61_13, f11_13, f5_13, f6_13, f62_13, f63_13, f64_13, f65_13, f66_13, f67_13], by first | (simp only [At, ↓Array.getElem?_setIfInBounds_ne, ne_eq, Nat.reduceEqDiff, not_false_eq_true, q48_13]; done) | simp [At, hs13, f9_13, f10_13, f48_13, f49_13, f50_13, f51_13, f52_13, f53_13, f54_13, f55_13, f56_13, f57_13, f58_13, f59_13, f60_13, f61_13, f11_13, f5_13, f6_13, f62_13, f63_13, f64_13, f65_13, f66_13, f67_13], by first | (simp only [At, ↓Array.getElem?_setIfInBounds_ne, ne_eq, Nat.reduceEqDiff, not_false_eq_true, q49_13]; done) | simp [At, hs13, f9_13, f10_13, f48_13, f49_13, f50_13, f51_13, f52_13, f53_13, f54_13, f55_13, f56_13, f57_13, f58_13, f59_13, f60_13, f61_13, f11_13, f5_13, f6_13, f62_13, f63_13, f64_13, f65_13, f66_13, f67_13], by first | (simp only [At, ↓Array.getElem?_setIfInBounds_ne, ne_eq, Nat.reduceEqDiff, not_false_eq_true, q52_13]; done) | simp [At, hs13, f9_13, f10_13, f48_13, f49_13, f50_13, f51_13, f52_13, f53_13, f54_13, f55_13, f56_13, f57_13, f58_13, f59_13, f60_13, f61_13, f11_13, f5_13, f6_13, f62_13, f63_13, f64_13, f65_13, f66_13, f67_13], by first | (simp only [At, ↓Array.getElem?_setIfInBounds_ne, ne_eq, Nat.reduceEqDiff, not_false_eq_true, q56_13]; done) | simp [At, hs13, f9_13, f10_13, f48_13, f49_13, f50_13, f51_13, f52_13, f53_13, f54_13, f55_13, f56_13, f57_13, f58_13, f59_13, f60_13, f61_13, f11_13, f5_13, f6_13, f62_13, f63_13, f64_13, f65_13, f66_13, f67_13], by first | (simp only [At, ↓Array.getElem?_setIfInBounds_ne, ne_eq, Nat.reduceEqDiff, not_false_eq_true, q57_13]; done) | simp [At, hs13, f9_13, f10_13, f48_13, f49_13, f50_13, f51_13, f52_13, f53_13, f54_13, f55_13, f56_13, f57_13, f58_13, f59_13, f60_13, f61_13, f11_13, f5_13, f6_13, f62_13, f63_13, f64_13, f65_13, f66_13, f67_13], by first | (simp only [At, ↓Array.getElem?_setIfInBounds_ne, ne_eq, Nat.reduceEqDiff, not_false_eq_true, q62_13]; done) | simp [At, hs13, f9_13, f10_13, f48_13, f49_13, f50_13, f51_13, f52_13, f53_13, f54_13, f55_13, f56_13, f57_13, f58_13, f59_13, f60_13, f61_13, f11_13, f5_13, f6_13, f62_13, f63_13, f64_13, f65_13, f66_13, f67_13], by first | (simp only [At, ↓Array.getElem?_setIfInBounds_ne, ne_eq, Nat.reduceEqDiff, not_false_eq_true, q63_13]; done) | simp [At, hs13, f9_13, f10_13, f48_13, f49_13, f50_13, f51_13, f52_13, f53_13, f54_13, f55_13, f56_13, f57_13, f58_13, f59_13, f60_13, f61_13, f11_13, f5_13, f6_13, f62_13, f63_13, f64_13, f65_13, f66_13, f67_13], by first | (simp only [At, ↓Array.getElem?_setIfInBounds_ne, ne_eq, Nat.reduceEqDiff, not_false_eq_true, q64_13]; done) | simp [At, hs13, f9_13, f10_13, f48_13, f49_13, f50_13, f51_13, f52_13, f53_13, f54_13, f55_13, f56_13, f57_13, f58_13, f59_13, f60_13, f61_13, f11_13, f5_13, f6_13, f62_13, f63_13, f64_13, f65_13, f66_13, f67_13], by first | (simp only [At, ↓Array.getElem?_setIfInBounds_ne, ne_eq, Nat.reduceEqDiff, not_false_eq_true]; done) | simp [At, hs13, f9_13, f10_13, f48_13, f49_13, f50_13, f51_13, f52_13, f53_13, f54_13, f55_13, f56_13, f57_13, f58_13, f59_13, f60_13, f61_13, f11_13, f5_13, f6_13, f62_13, f63_13, f64_13, f65_13, f66_13, f67_13], (by repeat (first | exact HFw123.out | refine Lay.drewN ?_ _)), ⟨_, (IRow.keep HI1_w123.out (by repeat (first | exact Below.refl _ _ | refine bl_drewN ?_ _)))⟩, _, (IRow.keep HJ1_w123.out (by repeat (first | exact Below.refl _ _ | refine bl_drewN ?_ _)))⟩)
      case rest3 =>
        intro a' wc3 hR3
        obtain ⟨T14, rfl, hs14, q5_14, q6_14, q9_14, q10_14, q11_14, q48_14, q49_14, q52_14, q56_14, q57_14, q62_14, q63_14, q64_14, q460_14, hL_, ⟨bI, hI⟩, bJ, hJ_⟩ := hR3
        have f5_14 := fun hh => getq q5_14 hh
        have f6_14 := fun hh => getq q6_14 hh
        have f9_14 := fun hh => getq q9_14 hh
        have f10_14 := fun hh => getq q10_14 hh
        have f11_14 := fun hh => getq q11_14 hh
        have f48_14 := fun hh => getq q48_14 hh
        have f49_14 := fun hh => getq q49_14 hh
        have f52_14 := fun hh => getq q52_14 hh
        have f56_14 := fun hh => getq q56_14 hh
        have f57_14 := fun hh => getq q57_14 hh
        have f62_14 := fun hh => getq q62_14 hh
        have f63_14 := fun hh => getq q63_14 hh
        have f64_14 := fun hh => getq q64_14 hh
        have f460_14 := fun hh => getq q460_14 hh
        have HFwc3 := Lib.hid hL_
        clear hL_
        have HI := Lib.hid hI
        have HJ := Lib.hid hJ_
        clear hI hJ_
        obtain ⟨c00, c01, z0, c10, c11, z1, c20, c21, z2, hbl⟩ := Lay.op (HFwc3.out)
        clear hbl
        go_wp2_with fail
        refine wp_cond_f ?_ ?_
        · go_simp
        go_wp2_with fail
        refine wp_cut (fun a' wx => ∃ T : Array Value, a' = ⟨T, []⟩ ∧ T.size = 636 ∧ At T 57 (.int .i64 x) ∧ At T 58 (.int .i64 y) ∧ At T 56 (.pointer (some ⟨g3, 0, none⟩)) ∧ At T 59 (.int .i64 H) ∧ At T 60 (.int .i64 E) ∧ At T 61 (.bool OH) ∧ Lay w [(g3, u, v), (g2, p, q), (g2 + 1, r, s)] wx) ?rest4 ?first4
        case first4 =>
          intro J K' hJ hK
          clear FH
          cases OC
          · go_wp2_with fail
            refine wp_cond_f ?_ ?_
            · go_simp
            go_wp2_with fail
            refine Met.intro (hJ _ _ ⟨_, rfl, by simp [hs14], by first | (simp only [At, ↓Array.getElem?_setIfInBounds_ne, ne_eq, Nat.reduceEqDiff, not_false_eq_true, q5_14]; done) | simp [At, hs14, f5_14, f6_14, f9_14, f10_14, f11_14, f48_14, f49_14, f52_14, f56_14, f57_14, f62_14, f63_14, f64_14, f460_14], by first | (simp only [At, ↓Array.getElem?_setIfInBounds_ne, ne_eq, Nat.reduceEqDiff, not_false_eq_true, q6_14]; done) | simp [At, hs14, f5_14, f6_14, f9_14, f10_14, f11_14, f48_14, f49_14, f52_14, f56_14, f57_14, f62_14, f63_14, f64_14, f460_14], by first | (simp only [At, ↓Array.getElem?_setIfInBounds_ne, ne_eq, Nat.reduceEqDiff, not_false_eq_true, q11_14]; done) | simp [At, hs14, f5_14, f6_14, f9_14, f10_14, f11_14, f48_14, f49_14, f52_14, f56_14, f57_14, f62_14, f63_14, f64_14, f460_14], by first | (simp only [At, ↓Array.getElem?_setIfInBounds_ne, ne_eq, Nat.reduceEqDiff, not_false_eq_true, q62_14]; done) | simp [At, hs14, f5_14, f6_14, f9_14, f10_14, f11_14, f48_14, f49_14, f52_14, f56_14, f57_14, f62_14, f63_14, f64_14, f460_14], by first | (simp only [At, ↓Array.getElem?_setIfInBounds_ne, ne_eq, Nat.reduceEqDiff, not_false_eq_true, q63_14]; done) | simp [At, hs14, f5_14, f6_14, f9_14, f10_14, f11_14, f48_14, f49_14, f52_14, f56_14, f57_14, f62_14, f63_14, f64_14, f460_14], by first | (simp only [At, ↓Array.getElem?_setIfInBounds_ne, ne_eq, Nat.reduceEqDiff, not_false_eq_true, q64_14]; done) | simp [At, hs14, f5_14, f6_14, f9_14, f10_14, f11_14, f48_14, f49_14, f52_14, f56_14, f57_14, f62_14, f63_14, f64_14, f460_14], HFwc3.out⟩)
          · obtain ⟨HY, hS, HP, ⟨⟨p1, p2, q1, q2⟩, r1, r2, s1, s2⟩, ⟨y1, y2⟩, g0, g1, k0, k1, rfl, rfl, HG, HK, ⟨g0p, k0p⟩, hcase⟩ := FC.out rfl
            clear FC
            subst hS
            obtain ⟨gg, cg, rfl, _, hgg, _, _, hcg, _⟩ := HI.out.some_ (by simp)
            obtain ⟨kk, ck, rfl, _, hkk, _, _, hck, _⟩ := HJ.out.some_ (by simp)
            have e0 : wc3.cell? ⟨gg, 0, none⟩ = some (.int .i64 g0) := by simpa using hcg 0 (by simp)
            have e1 : wc3.cell? ⟨gg, 1, none⟩ = some (.int .i64 g1) := by simpa using hcg 1 (by simp)
            have e2 : wc3.cell? ⟨kk, 0, none⟩ = some (.int .i64 k0) := by simpa using hck 0 (by simp)
            have e3 : wc3.cell? ⟨kk, 1, none⟩ = some (.int .i64 k1) := by simpa using hck 1 (by simp)
            simp only [List.length_cons, List.length_nil, Nat.zero_add, Nat.reduceAdd] at q56_14 q57_14 f56_14 f57_14
            clear HI HJ hcg hck
            have HFr := Lib.hid (Lay.c e0 e1 hgg (Lay.c e2 e3 hkk (HFwc3.out)))
            clear e0 e1 e2 e3 hgg hkk c00 c01 z0 c10 c11 z1 c20 c21 z2
            obtain ⟨c00, c01, z0, c10, c11, z1, c20, c21, z2, c30, c31, z3, c40, c41, z4, hbl⟩ := Lay.op (HFr.out)
            clear hbl
            go_wp2_with fail
            refine wp_cond_t ?_ ?_
            · go_simp
            go_wp2_with fail
            refine ((HY _).out).mono ?_
            rintro e w124 ⟨rfl, hb_⟩
            have HFw124 := Lib.hid (Lay.after (w := w) (B := [(gg, g0, g1), (kk, k0, k1), (g3, u, v), (g2, p, q), (g2 + 1, r, s)]) (Lay.after (HFr.out) (by repeat (first | exact Below.refl _ _ | refine bl_alloc ?_ _ | refine bl_drewN ?_ _ | refine bl_set ?_ (by first | omega | (simp; done) | (simp; omega)) _))) hb_)
            clear hb_ c00 c01 z0 c10 c11 z1 c20 c21 z2 c30 c31 z3 c40 c41 z4
            obtain ⟨c00, c01, z0, c10, c11, z1, c20, c21, z2, c30, c31, z3, c40, c41, z4, hbl⟩ := Lay.op (HFw124.out)
            clear hbl
            go_upto_region 40 with fail
            refine reframe fun T15 hT => ?_
            have hs15 : T15.size = 636 := by subst hT; simp [hs14]
            have q5_15 : At T15 57 (.int .i64 x) := by subst hT; exact (by first | (simp only [At, ↓Array.getElem?_setIfInBounds_ne, ne_eq, Nat.reduceEqDiff, not_false_eq_true, q5_14]; done) | simp [At, hs14, f5_14, f6_14, f9_14, f10_14, f11_14, f48_14, f49_14, f52_14, f56_14, f57_14, f62_14, f63_14, f64_14, f460_14])
            have f5_15 := fun hh => getq q5_15 hh
            have q6_15 : At T15 58 (.int .i64 y) := by subst hT; exact (by first | (simp only [At, ↓Array.getElem?_setIfInBounds_ne, ne_eq, Nat.reduceEqDiff, not_false_eq_true, q6_14]; done) | simp [At, hs14, f5_14, f6_14, f9_14, f10_14, f11_14, f48_14, f49_14, f52_14, f56_14, f57_14, f62_14, f63_14, f64_14, f460_14])
            have f6_15 := fun hh => getq q6_15 hh
            have q9_15 : At T15 40 (.pointer (some ⟨g2, 0, none⟩)) := by subst hT; exact (by first | (simp only [At, ↓Array.getElem?_setIfInBounds_ne, ne_eq, Nat.reduceEqDiff, not_false_eq_true, q9_14]; done) | simp [At, hs14, f5_14, f6_14, f9_14, f10_14, f11_14, f48_14, f49_14, f52_14, f56_14, f57_14, f62_14, f63_14, f64_14, f460_14])
            have f9_15 := fun hh => getq q9_15 hh
            have q10_15 : At T15 41 (.pointer (some ⟨g2 + 1, 0, none⟩)) := by subst hT; exact (by first | (simp only [At, ↓Array.getElem?_setIfInBounds_ne, ne_eq, Nat.reduceEqDiff, not_false_eq_true, q10_14]; done) | simp [At, hs14, f5_14, f6_14, f9_14, f10_14, f11_14, f48_14, f49_14, f52_14, f56_14, f57_14, f62_14, f63_14, f64_14, f460_14])
            have f10_15 := fun hh => getq q10_15 hh
            have q11_15 : At T15 56 (.pointer (some ⟨g3, 0, none⟩)) := by subst hT; exact (by first | (simp only [At, ↓Array.getElem?_setIfInBounds_ne, ne_eq, Nat.reduceEqDiff, not_false_eq_true, q11_14]; done) | simp [At, hs14, f5_14, f6_14, f9_14, f10_14, f11_14, f48_14, f49_14, f52_14, f56_14, f57_14, f62_14, f63_14, f64_14, f460_14])
            have f11_15 := fun hh => getq q11_15 hh
            have q48_15 : At T15 42 (.string O) := by subst hT; exact (by first | (simp only [At, ↓Array.getElem?_setIfInBounds_ne, ne_eq, Nat.reduceEqDiff, not_false_eq_true, q48_14]; done) | simp [At, hs14, f5_14, f6_14, f9_14, f10_14, f11_14, f48_14, f49_14, f52_14, f56_14, f57_14, f62_14, f63_14, f64_14, f460_14])
            have f48_15 := fun hh => getq q48_15 hh
            have q62_15 : At T15 59 (.int .i64 H) := by subst hT; exact (by first | (simp only [At, ↓Array.getElem?_setIfInBounds_ne, ne_eq, Nat.reduceEqDiff, not_false_eq_true, q62_14]; done) | simp [At, hs14, f5_14, f6_14, f9_14, f10_14, f11_14, f48_14, f49_14, f52_14, f56_14, f57_14, f62_14, f63_14, f64_14, f460_14])
            have f62_15 := fun hh => getq q62_15 hh
            have q63_15 : At T15 60 (.int .i64 E) := by subst hT; exact (by first | (simp only [At, ↓Array.getElem?_setIfInBounds_ne, ne_eq, Nat.reduceEqDiff, not_false_eq_true, q63_14]; done) | simp [At, hs14, f5_14, f6_14, f9_14, f10_14, f11_14, f48_14, f49_14, f52_14, f56_14, f57_14, f62_14, f63_14, f64_14, f460_14])
            have f63_15 := fun hh => getq q63_15 hh
            have q64_15 : At T15 61 (.bool OH) := by subst hT; exact (by first | (simp only [At, ↓Array.getElem?_setIfInBounds_ne, ne_eq, Nat.reduceEqDiff, not_false_eq_true, q64_14]; done) | simp [At, hs14, f5_14, f6_14, f9_14, f10_14, f11_14, f48_14, f49_14, f52_14, f56_14, f57_14, f62_14, f63_14, f64_14, f460_14])
            have f64_15 := fun hh => getq q64_15 hh
            have q56_15 : At T15 50 (.slice (some ⟨gg, 0, none⟩) 2 cg) := by subst hT; exact (by first | (simp only [At, ↓Array.getElem?_setIfInBounds_ne, ne_eq, Nat.reduceEqDiff, not_false_eq_true, q56_14]; done) | simp [At, hs14, f5_14, f6_14, f9_14, f10_14, f11_14, f48_14, f49_14, f52_14, f56_14, f57_14, f62_14, f63_14, f64_14, f460_14])
            have f56_15 := fun hh => getq q56_15 hh
            have q57_15 : At T15 51 (.slice (some ⟨kk, 0, none⟩) 2 ck) := by subst hT; exact (by first | (simp only [At, ↓Array.getElem?_setIfInBounds_ne, ne_eq, Nat.reduceEqDiff, not_false_eq_true, q57_14]; done) | simp [At, hs14, f5_14, f6_14, f9_14, f10_14, f11_14, f48_14, f49_14, f52_14, f56_14, f57_14, f62_14, f63_14, f64_14, f460_14])
            have f57_15 := fun hh => getq q57_15 hh
            have q52_15 : At T15 46 (.int .i64 (Y + 4 * p * r)) := by subst hT; exact (by first | (simp only [At, ↓Array.getElem?_setIfInBounds_ne, ne_eq, Nat.reduceEqDiff, not_false_eq_true, q52_14]; done) | simp [At, hs14, f5_14, f6_14, f9_14, f10_14, f11_14, f48_14, f49_14, f52_14, f56_14, f57_14, f62_14, f63_14, f64_14, f460_14])
            have f52_15 := fun hh => getq q52_15 hh
            have q68_15 : At T15 65 (.int .i64 Y) := by subst hT; exact (by first | (simp only [At, ↓Array.getElem?_setIfInBounds_ne, ne_eq, Nat.reduceEqDiff, not_false_eq_true]; done) | simp [At, hs14, f5_14, f6_14, f9_14, f10_14, f11_14, f48_14, f49_14, f52_14, f56_14, f57_14, f62_14, f63_14, f64_14, f460_14])
            have f68_15 := fun hh => getq q68_15 hh
            have q69_15 : At T15 66 (.bool true) := by subst hT; exact (by first | (simp only [At, ↓Array.getElem?_setIfInBounds_ne, ne_eq, Nat.reduceEqDiff, not_false_eq_true]; done) | simp [At, hs14, f5_14, f6_14, f9_14, f10_14, f11_14, f48_14, f49_14, f52_14, f56_14, f57_14, f62_14, f63_14, f64_14, f460_14])
            have f69_15 := fun hh => getq q69_15 hh
            clear hT f460_14 f64_14 f63_14 f62_14 f57_14 f56_14 f52_14 f49_14 f48_14 f11_14 f10_14 f9_14 f6_14 f5_14 hs14 q5_14 q6_14 q9_14 q10_14 q11_14 q48_14 q49_14 q52_14 q56_14 q57_14 q62_14 q63_14 q64_14 q460_14
            go_wp2_with fail
            refine ((HP _).out).mono ?_
            rintro e w125 ⟨rfl, hb_⟩
            have HFw125 := Lib.hid (Lay.after (w := w) (B := [(gg, g0, g1), (kk, k0, k1), (g3, u, v), (g2, p, q), (g2 + 1, r, s)]) (Lay.after (HFw124.out) (by repeat (first | exact Below.refl _ _ | refine bl_alloc ?_ _ | refine bl_drewN ?_ _ | refine bl_set ?_ (by first | omega | (simp; done) | (simp; omega)) _))) hb_)
            clear hb_ c00 c01 z0 c10 c11 z1 c20 c21 z2 c30 c31 z3 c40 c41 z4
            obtain ⟨c00, c01, z0, c10, c11, z1, c20, c21, z2, c30, c31, z3, c40, c41, z4, hbl⟩ := Lay.op (HFw125.out)
            clear hbl
            go_upto_region 41 with fail
            refine reframe fun T16 hT => ?_
            have hs16 : T16.size = 636 := by subst hT; simp [hs15]
            have q5_16 : At T16 57 (.int .i64 x) := by subst hT; exact (by first | (simp only [At, ↓Array.getElem?_setIfInBounds_ne, ne_eq, Nat.reduceEqDiff, not_false_eq_true, q5_15]; done) | simp [At, hs15, f5_15, f6_15, f9_15, f10_15, f11_15, f48_15, f62_15, f63_15, f64_15, f56_15, f57_15, f52_15, f68_15, f69_15])
            have f5_16 := fun hh => getq q5_16 hh
            have q6_16 : At T16 58 (.int .i64 y) := by subst hT; exact (by first | (simp only [At, ↓Array.getElem?_setIfInBounds_ne, ne_eq, Nat.reduceEqDiff, not_false_eq_true, q6_15]; done) | simp [At, hs15, f5_15, f6_15, f9_15, f10_15, f11_15, f48_15, f62_15, f63_15, f64_15, f56_15, f57_15, f52_15, f68_15, f69_15])
            have f6_16 := fun hh => getq q6_16 hh
            have q9_16 : At T16 40 (.pointer (some ⟨g2, 0, none⟩)) := by subst hT; exact (by first | (simp only [At, ↓Array.getElem?_setIfInBounds_ne, ne_eq, Nat.reduceEqDiff, not_false_eq_true, q9_15]; done) | simp [At, hs15, f5_15, f6_15, f9_15, f10_15, f11_15, f48_15, f62_15, f63_15, f64_15, f56_15, f57_15, f52_15, f68_15, f69_15])
            have f9_16 := fun hh => getq q9_16 hh
            have q10_16 : At T16 41 (.pointer (some ⟨g2 + 1, 0, none⟩)) := by subst hT; exact (by first | (simp only [At, ↓Array.getElem?_setIfInBounds_ne, ne_eq, Nat.reduceEqDiff, not_false_eq_true, q10_15]; done) | simp [At, hs15, f5_15, f6_15, f9_15, f10_15, f11_15, f48_15, f62_15, f63_15, f64_15, f56_15, f57_15, f52_15, f68_15, f69_15])
            have f10_16 := fun hh => getq q10_16 hh
            have q11_16 : At T16 56 (.pointer (some ⟨g3, 0, none⟩)) := by subst hT; exact (by first | (simp only [At, ↓Array.getElem?_setIfInBounds_ne, ne_eq, Nat.reduceEqDiff, not_false_eq_true, q11_15]; done) | simp [At, hs15, f5_15, f6_15, f9_15, f10_15, f11_15, f48_15, f62_15, f63_15, f64_15, f56_15, f57_15, f52_15, f68_15, f69_15])
            have f11_16 := fun hh => getq q11_16 hh
            have q48_16 : At T16 42 (.string O) := by subst hT; exact (by first | (simp only [At, ↓Array.getElem?_setIfInBounds_ne, ne_eq, Nat.reduceEqDiff, not_false_eq_true, q48_15]; done) | simp [At, hs15, f5_15, f6_15, f9_15, f10_15, f11_15, f48_15, f62_15, f63_15, f64_15, f56_15, f57_15, f52_15, f68_15, f69_15])
            have f48_16 := fun hh => getq q48_16 hh
            have q62_16 : At T16 59 (.int .i64 H) := by subst hT; exact (by first | (simp only [At, ↓Array.getElem?_setIfInBounds_ne, ne_eq, Nat.reduceEqDiff, not_false_eq_true, q62_15]; done) | simp [At, hs15, f5_15, f6_15, f9_15, f10_15, f11_15, f48_15, f62_15, f63_15, f64_15, f56_15, f57_15, f52_15, f68_15, f69_15])
            have f62_16 := fun hh => getq q62_16 hh
            have q63_16 : At T16 60 (.int .i64 E) := by subst hT; exact (by first | (simp only [At, ↓Array.getElem?_setIfInBounds_ne, ne_eq, Nat.reduceEqDiff, not_false_eq_true, q63_15]; done) | simp [At, hs15, f5_15, f6_15, f9_15, f10_15, f11_15, f48_15, f62_15, f63_15, f64_15, f56_15, f57_15, f52_15, f68_15, f69_15])
            have f63_16 := fun hh => getq q63_16 hh
            have q64_16 : At T16 61 (.bool OH) := by subst hT; exact (by first | (simp only [At, ↓Array.getElem?_setIfInBounds_ne, ne_eq, Nat.reduceEqDiff, not_false_eq_true, q64_15]; done) | simp [At, hs15, f5_15, f6_15, f9_15, f10_15, f11_15, f48_15, f62_15, f63_15, f64_15, f56_15, f57_15, f52_15, f68_15, f69_15])
            have f64_16 := fun hh => getq q64_16 hh
            have q56_16 : At T16 50 (.slice (some ⟨gg, 0, none⟩) 2 cg) := by subst hT; exact (by first | (simp only [At, ↓Array.getElem?_setIfInBounds_ne, ne_eq, Nat.reduceEqDiff, not_false_eq_true, q56_15]; done) | simp [At, hs15, f5_15, f6_15, f9_15, f10_15, f11_15, f48_15, f62_15, f63_15, f64_15, f56_15, f57_15, f52_15, f68_15, f69_15])
            have f56_16 := fun hh => getq q56_16 hh
            have q57_16 : At T16 51 (.slice (some ⟨kk, 0, none⟩) 2 ck) := by subst hT; exact (by first | (simp only [At, ↓Array.getElem?_setIfInBounds_ne, ne_eq, Nat.reduceEqDiff, not_false_eq_true, q57_15]; done) | simp [At, hs15, f5_15, f6_15, f9_15, f10_15, f11_15, f48_15, f62_15, f63_15, f64_15, f56_15, f57_15, f52_15, f68_15, f69_15])
            have f57_16 := fun hh => getq q57_16 hh
            have q52_16 : At T16 46 (.int .i64 (Y + 4 * p * r)) := by subst hT; exact (by first | (simp only [At, ↓Array.getElem?_setIfInBounds_ne, ne_eq, Nat.reduceEqDiff, not_false_eq_true, q52_15]; done) | simp [At, hs15, f5_15, f6_15, f9_15, f10_15, f11_15, f48_15, f62_15, f63_15, f64_15, f56_15, f57_15, f52_15, f68_15, f69_15])
            have f52_16 := fun hh => getq q52_16 hh
            have q68_16 : At T16 65 (.int .i64 Y) := by subst hT; exact (by first | (simp only [At, ↓Array.getElem?_setIfInBounds_ne, ne_eq, Nat.reduceEqDiff, not_false_eq_true, q68_15]; done) | simp [At, hs15, f5_15, f6_15, f9_15, f10_15, f11_15, f48_15, f62_15, f63_15, f64_15, f56_15, f57_15, f52_15, f68_15, f69_15])
            have f68_16 := fun hh => getq q68_16 hh
            have q69_16 : At T16 66 (.bool true) := by subst hT; exact (by first | (simp only [At, ↓Array.getElem?_setIfInBounds_ne, ne_eq, Nat.reduceEqDiff, not_false_eq_true, q69_15]; done) | simp [At, hs15, f5_15, f6_15, f9_15, f10_15, f11_15, f48_15, f62_15, f63_15, f64_15, f56_15, f57_15, f52_15, f68_15, f69_15])
            have f69_16 := fun hh => getq q69_16 hh
            have q70_16 : At T16 67 (.string P) := by subst hT; exact (by first | (simp only [At, ↓Array.getElem?_setIfInBounds_ne, ne_eq, Nat.reduceEqDiff, not_false_eq_true]; done) | simp [At, hs15, f5_15, f6_15, f9_15, f10_15, f11_15, f48_15, f62_15, f63_15, f64_15, f56_15, f57_15, f52_15, f68_15, f69_15])
            have f70_16 := fun hh => getq q70_16 hh
            have q71_16 : At T16 68 (.bool true) := by subst hT; exact (by first | (simp only [At, ↓Array.getElem?_setIfInBounds_ne, ne_eq, Nat.reduceEqDiff, not_false_eq_true]; done) | simp [At, hs15, f5_15, f6_15, f9_15, f10_15, f11_15, f48_15, f62_15, f63_15, f64_15, f56_15, f57_15, f52_15, f68_15, f69_15])
            have f71_16 := fun hh => getq q71_16 hh
            clear hT f69_15 f68_15 f52_15 f57_15 f56_15 f64_15 f63_15 f62_15 f48_15 f11_15 f10_15 f9_15 f6_15 f5_15 hs15 q5_15 q6_15 q9_15 q10_15 q11_15 q48_15 q62_15 q63_15 q64_15 q56_15 q57_15 q52_15 q68_15 q69_15
            obtain ⟨m1_, m2_⟩ := mul_bd2 (a := 4 * p) (b := r) (m := 4000) (k := 1000) (by omega) (by omega) (by omega) (by omega)
            obtain ⟨m3_, m4_⟩ := mul_bd (a := p) (b := s) (m := 1000) (by omega) (by omega) (by omega) (by omega)
            obtain ⟨m5_, m6_⟩ := mul_bd (a := r) (b := q) (m := 1000) (by omega) (by omega) (by omega) (by omega)
            have w1_ : IntKind.i64.wrap (4 * p) = 4 * p := IntWalk.i64_in _ ⟨by omega, by omega⟩
            have w2_ : IntKind.i64.wrap (4 * p * r) = 4 * p * r := IntWalk.i64_in _ ⟨by omega, by omega⟩
            have w3_ : IntKind.i64.wrap (Y + 4 * p * r) = Y + 4 * p * r := IntWalk.i64_in _ ⟨by omega, by omega⟩
            have w4_ : IntKind.i64.wrap (p * s) = p * s := IntWalk.i64_in _ ⟨by omega, by omega⟩
            have w5_ : IntKind.i64.wrap (r * q) = r * q := IntWalk.i64_in _ ⟨by omega, by omega⟩
            clear m1_ m2_ m3_ m4_ m5_ m6_
            have g0n : ¬ g0 < 0 := by omega
            have k0n : ¬ k0 < 0 := by omega
            have s1_ : ((⟨#[103, 119]⟩ : ByteArray) = ⟨#[99]⟩) = False := by simp
            have s2_ : ((⟨#[119, 103]⟩ : ByteArray) = ⟨#[99]⟩) = False := by simp
            have s3_ : ((⟨#[103, 119]⟩ : ByteArray) = ⟨#[119, 103]⟩) = False := by simp
            have s4_ : ((⟨#[119, 103]⟩ : ByteArray) = ⟨#[103, 119]⟩) = False := by simp
            have s5_ : ((⟨#[99]⟩ : ByteArray) = ⟨#[103, 119]⟩) = False := by simp
            have s6_ : ((⟨#[99]⟩ : ByteArray) = ⟨#[119, 103]⟩) = False := by simp
            refine wp_cut (fun a' wx => ∃ T : Array Value, a' = ⟨T, []⟩ ∧ T.size = 636 ∧ At T 57 (.int .i64 x) ∧ At T 58 (.int .i64 y) ∧ At T 56 (.pointer (some ⟨g3, 0, none⟩)) ∧ At T 42 (.string O) ∧ At T 59 (.int .i64 H) ∧ At T 60 (.int .i64 E) ∧ At T 61 (.bool OH) ∧ At T 67 (.string P) ∧ At T 583 (.bool false) ∧ Lay w [(gg, g0, g1), (kk, k0, k1), (g3, u, v), (g2, p, q), (g2 + 1, r, s)] wx) ?rest5 ?first5
            case first5 =>
              intro J K' hJ hK
              exact reg36 _ _ _ _ _ _ _ _ _ _ _ _ _ _ _ _ _ _ _ _ _ _ _ _ _ _ _ hs16 q5_16 q6_16 q9_16 q10_16 q11_16 q48_16 q62_16 q63_16 q64_16 q56_16 q57_16 q52_16 q68_16 q69_16 q70_16 q71_16 (HFw125.out) c30 c31 c40 c41 c00 c01 c10 c11 HG HK w1_ w2_ w3_ w4_ w5_ g0n k0n s1_ s2_ s3_ s4_ s5_ s6_ hcase _ _ _ hJ hK
            case rest5 =>
              intro a' wc5 hR5
              obtain ⟨T17, rfl, hs17, q5_17, q6_17, q11_17, q48_17, q62_17, q63_17, q64_17, q70_17, q567_17, hL_⟩ := hR5
              have f5_17 := fun hh => getq q5_17 hh
              have f6_17 := fun hh => getq q6_17 hh
              have f11_17 := fun hh => getq q11_17 hh
              have f48_17 := fun hh => getq q48_17 hh
              have f62_17 := fun hh => getq q62_17 hh
              have f63_17 := fun hh => getq q63_17 hh
              have f64_17 := fun hh => getq q64_17 hh
              have f70_17 := fun hh => getq q70_17 hh
              have f567_17 := fun hh => getq q567_17 hh
              have HFwc5 := Lib.hid hL_
              clear hL_
              obtain ⟨c00, c01, z0, c10, c11, z1, c20, c21, z2, c30, c31, z3, c40, c41, z4, hbl⟩ := Lay.op (HFwc5.out)
              clear hbl
              go_wp2_with fail
              refine wp_cond_f ?_ ?_
              · go_simp
              go_upto_region 43 with fail
              refine reframe fun T18 hT => ?_
              have hs18 : T18.size = 636 := by subst hT; simp [hs17]
              have q5_18 : At T18 57 (.int .i64 x) := by subst hT; exact (by first | (simp only [At, ↓Array.getElem?_setIfInBounds_ne, ne_eq, Nat.reduceEqDiff, not_false_eq_true, q5_17]; done) | simp [At, hs17, f5_17, f6_17, f11_17, f48_17, f62_17, f63_17, f64_17, f70_17, f567_17])
              have f5_18 := fun hh => getq q5_18 hh
              have q6_18 : At T18 58 (.int .i64 y) := by subst hT; exact (by first | (simp only [At, ↓Array.getElem?_setIfInBounds_ne, ne_eq, Nat.reduceEqDiff, not_false_eq_true, q6_17]; done) | simp [At, hs17, f5_17, f6_17, f11_17, f48_17, f62_17, f63_17, f64_17, f70_17, f567_17])
              have f6_18 := fun hh => getq q6_18 hh
              have q11_18 : At T18 56 (.pointer (some ⟨g3, 0, none⟩)) := by subst hT; exact (by first | (simp only [At, ↓Array.getElem?_setIfInBounds_ne, ne_eq, Nat.reduceEqDiff, not_false_eq_true, q11_17]; done) | simp [At, hs17, f5_17, f6_17, f11_17, f48_17, f62_17, f63_17, f64_17, f70_17, f567_17])
              have f11_18 := fun hh => getq q11_18 hh
              have q48_18 : At T18 42 (.string O) := by subst hT; exact (by first | (simp only [At, ↓Array.getElem?_setIfInBounds_ne, ne_eq, Nat.reduceEqDiff, not_false_eq_true, q48_17]; done) | simp [At, hs17, f5_17, f6_17, f11_17, f48_17, f62_17, f63_17, f64_17, f70_17, f567_17])
              have f48_18 := fun hh => getq q48_18 hh
              have q62_18 : At T18 59 (.int .i64 H) := by subst hT; exact (by first | (simp only [At, ↓Array.getElem?_setIfInBounds_ne, ne_eq, Nat.reduceEqDiff, not_false_eq_true, q62_17]; done) | simp [At, hs17, f5_17, f6_17, f11_17, f48_17, f62_17, f63_17, f64_17, f70_17, f567_17])
              have f62_18 := fun hh => getq q62_18 hh
              have q63_18 : At T18 60 (.int .i64 E) := by subst hT; exact (by first | (simp only [At, ↓Array.getElem?_setIfInBounds_ne, ne_eq, Nat.reduceEqDiff, not_false_eq_true, q63_17]; done) | simp [At, hs17, f5_17, f6_17, f11_17, f48_17, f62_17, f63_17, f64_17, f70_17, f567_17])
              have f63_18 := fun hh => getq q63_18 hh
              have q64_18 : At T18 61 (.bool OH) := by subst hT; exact (by first | (simp only [At, ↓Array.getElem?_setIfInBounds_ne, ne_eq, Nat.reduceEqDiff, not_false_eq_true, q64_17]; done) | simp [At, hs17, f5_17, f6_17, f11_17, f48_17, f62_17, f63_17, f64_17, f70_17, f567_17])
              have f64_18 := fun hh => getq q64_18 hh
              have q70_18 : At T18 67 (.string P) := by subst hT; exact (by first | (simp only [At, ↓Array.getElem?_setIfInBounds_ne, ne_eq, Nat.reduceEqDiff, not_false_eq_true, q70_17]; done) | simp [At, hs17, f5_17, f6_17, f11_17, f48_17, f62_17, f63_17, f64_17, f70_17, f567_17])
              have f70_18 := fun hh => getq q70_18 hh
              have q567_18 : At T18 583 (.bool false) := by subst hT; exact (by first | (simp only [At, ↓Array.getElem?_setIfInBounds_ne, ne_eq, Nat.reduceEqDiff, not_false_eq_true, q567_17]; done) | simp [At, hs17, f5_17, f6_17, f11_17, f48_17, f62_17, f63_17, f64_17, f70_17, f567_17])
              have f567_18 := fun hh => getq q567_18 hh
              clear hT f567_17 f70_17 f64_17 f63_17 f62_17 f48_17 f11_17 f6_17 f5_17 hs17 q5_17 q6_17 q11_17 q48_17 q62_17 q63_17 q64_17 q70_17 q567_17
              rcases hcase with ⟨rfl, rfl, rfl, rfl, he⟩ | ⟨rfl, rfl, hg, hk, he⟩ | ⟨rfl, rfl, hg, hk, he⟩
              · go_wp2_with fail
                refine wp_cond_f ?_ ?_
                · go_simp
                go_wp2_with fail
                refine Met.intro (hJ _ _ ⟨_, rfl, by simp [hs18], by first | (simp only [At, ↓Array.getElem?_setIfInBounds_ne, ne_eq, Nat.reduceEqDiff, not_false_eq_true, q5_18]; done) | simp [At, hs18, f5_18, f6_18, f11_18, f48_18, f62_18, f63_18, f64_18, f70_18, f567_18], by first | (simp only [At, ↓Array.getElem?_setIfInBounds_ne, ne_eq, Nat.reduceEqDiff, not_false_eq_true, q6_18]; done) | simp [At, hs18, f5_18, f6_18, f11_18, f48_18, f62_18, f63_18, f64_18, f70_18, f567_18], by first | (simp only [At, ↓Array.getElem?_setIfInBounds_ne, ne_eq, Nat.reduceEqDiff, not_false_eq_true, q11_18]; done) | simp [At, hs18, f5_18, f6_18, f11_18, f48_18, f62_18, f63_18, f64_18, f70_18, f567_18], by first | (simp only [At, ↓Array.getElem?_setIfInBounds_ne, ne_eq, Nat.reduceEqDiff, not_false_eq_true, q62_18]; done) | simp [At, hs18, f5_18, f6_18, f11_18, f48_18, f62_18, f63_18, f64_18, f70_18, f567_18], by first | (simp only [At, ↓Array.getElem?_setIfInBounds_ne, ne_eq, Nat.reduceEqDiff, not_false_eq_true, q63_18]; done) | simp [At, hs18, f5_18, f6_18, f11_18, f48_18, f62_18, f63_18, f64_18, f70_18, f567_18], by first | (simp only [At, ↓Array.getElem?_setIfInBounds_ne, ne_eq, Nat.reduceEqDiff, not_false_eq_true, q64_18]; done) | simp [At, hs18, f5_18, f6_18, f11_18, f48_18, f62_18, f63_18, f64_18, f70_18, f567_18], Lay.tl (Lay.tl (HFwc5.out))⟩)
              · go_wp2_with fail
                refine wp_cond_f ?_ ?_
                · go_simp
                go_wp2_with fail
                refine Met.intro (hJ _ _ ⟨_, rfl, by simp [hs18], by first | (simp only [At, ↓Array.getElem?_setIfInBounds_ne, ne_eq, Nat.reduceEqDiff, not_false_eq_true, q5_18]; done) | simp [At, hs18, f5_18, f6_18, f11_18, f48_18, f62_18, f63_18, f64_18, f70_18, f567_18], by first | (simp only [At, ↓Array.getElem?_setIfInBounds_ne, ne_eq, Nat.reduceEqDiff, not_false_eq_true, q6_18]; done) | simp [At, hs18, f5_18, f6_18, f11_18, f48_18, f62_18, f63_18, f64_18, f70_18, f567_18], by first | (simp only [At, ↓Array.getElem?_setIfInBounds_ne, ne_eq, Nat.reduceEqDiff, not_false_eq_true, q11_18]; done) | simp [At, hs18, f5_18, f6_18, f11_18, f48_18, f62_18, f63_18, f64_18, f70_18, f567_18], by first | (simp only [At, ↓Array.getElem?_setIfInBounds_ne, ne_eq, Nat.reduceEqDiff, not_false_eq_true, q62_18]; done) | simp [At, hs18, f5_18, f6_18, f11_18, f48_18, f62_18, f63_18, f64_18, f70_18, f567_18], by first | (simp only [At, ↓Array.getElem?_setIfInBounds_ne, ne_eq, Nat.reduceEqDiff, not_false_eq_true, q63_18]; done) | simp [At, hs18, f5_18, f6_18, f11_18, f48_18, f62_18, f63_18, f64_18, f70_18, f567_18], by first | (simp only [At, ↓Array.getElem?_setIfInBounds_ne, ne_eq, Nat.reduceEqDiff, not_false_eq_true, q64_18]; done) | simp [At, hs18, f5_18, f6_18, f11_18, f48_18, f62_18, f63_18, f64_18, f70_18, f567_18], Lay.tl (Lay.tl (HFwc5.out))⟩)
              · go_wp2_with fail
                refine wp_cond_f ?_ ?_
                · go_simp
                go_wp2_with fail
                refine Met.intro (hJ _ _ ⟨_, rfl, by simp [hs18], by first | (simp only [At, ↓Array.getElem?_setIfInBounds_ne, ne_eq, Nat.reduceEqDiff, not_false_eq_true, q5_18]; done) | simp [At, hs18, f5_18, f6_18, f11_18, f48_18, f62_18, f63_18, f64_18, f70_18, f567_18], by first | (simp only [At, ↓Array.getElem?_setIfInBounds_ne, ne_eq, Nat.reduceEqDiff, not_false_eq_true, q6_18]; done) | simp [At, hs18, f5_18, f6_18, f11_18, f48_18, f62_18, f63_18, f64_18, f70_18, f567_18], by first | (simp only [At, ↓Array.getElem?_setIfInBounds_ne, ne_eq, Nat.reduceEqDiff, not_false_eq_true, q11_18]; done) | simp [At, hs18, f5_18, f6_18, f11_18, f48_18, f62_18, f63_18, f64_18, f70_18, f567_18], by first | (simp only [At, ↓Array.getElem?_setIfInBounds_ne, ne_eq, Nat.reduceEqDiff, not_false_eq_true, q62_18]; done) | simp [At, hs18, f5_18, f6_18, f11_18, f48_18, f62_18, f63_18, f64_18, f70_18, f567_18], by first | (simp only [At, ↓Array.getElem?_setIfInBounds_ne, ne_eq, Nat.reduceEqDiff, not_false_eq_true, q63_18]; done) | simp [At, hs18, f5_18, f6_18, f11_18, f48_18, f62_18, f63_18, f64_18, f70_18, f567_18], by first | (simp only [At, ↓Array.getElem?_setIfInBounds_ne, ne_eq, Nat.reduceEqDiff, not_false_eq_true, q64_18]; done) | simp [At, hs18, f5_18, f6_18, f11_18, f48_18, f62_18, f63_18, f64_18, f70_18, f567_18], Lay.tl (Lay.tl (HFwc5.out))⟩)
        case rest4 =>
          intro a' wc4 hR4
          obtain ⟨T19, rfl, hs19, q5_19, q6_19, q11_19, q62_19, q63_19, q64_19, hL_⟩ := hR4
          have f5_19 := fun hh => getq q5_19 hh
          have f6_19 := fun hh => getq q6_19 hh
          have f11_19 := fun hh => getq q11_19 hh
          have f62_19 := fun hh => getq q62_19 hh
          have f63_19 := fun hh => getq q63_19 hh
          have f64_19 := fun hh => getq q64_19 hh
          have HFwc4 := Lib.hid hL_
          clear hL_
          obtain ⟨c00, c01, z0, c10, c11, z1, c20, c21, z2, hbl⟩ := Lay.op (HFwc4.out)
          clear hbl
          clear FC HI HJ
          go_upto_region 45 with fail
          refine wp_cut (fun a' wx => ∃ T : Array Value, a' = ⟨T, []⟩ ∧ T.size = 636 ∧ At T 635 (.bool false) ∧ Below w.heap.size w wx) ?rest6 ?first6
          case first6 =>
            cases OH
            · intro J K' hJ hK
              exact reg40_no 0 0 _ _ _ _ 0 0 _ _ _ _ hs19 q5_19 q6_19 q11_19 q62_19 q63_19 q64_19 (Lay.bl (HFwc4.out)) _ _ _ hJ hK
            · intro J K' hJ hK
              obtain ⟨HL, h1, h2, ⟨e1, e2⟩, ⟨⟨u1, u2, v1, v2⟩, x1, x2, y1, y2⟩, ⟨r1, r2, s1, s2⟩, HZ1, HZ2, hE⟩ := FH.out rfl
              have HE := Lib.hid hE
              clear hE
              obtain ⟨m1_, m2_⟩ := mul_bd2 (a := H) (b := rr) (m := 2000000) (k := 2000) (by omega) (by omega) (by omega) (by omega)
              obtain ⟨m3_, m4_⟩ := mul_bd2 (a := v) (b := ss) (m := 1000) (k := 2000) (by omega) (by omega) (by omega) (by omega)
              have w1_ : IntKind.i64.wrap (y - u) = y - u := IntWalk.i64_in _ ⟨by omega, by omega⟩
              have w2_ : IntKind.i64.wrap (x - y) = x - y := IntWalk.i64_in _ ⟨by omega, by omega⟩
              have w3_ : IntKind.i64.wrap (H * rr) = H * rr := IntWalk.i64_in _ ⟨by omega, by omega⟩
              have w4_ : IntKind.i64.wrap (v * ss) = v * ss := IntWalk.i64_in _ ⟨by omega, by omega⟩
              have w5_ : IntKind.i64.wrap (v * ss * E) = H * rr := by rw [← HE.out]; exact w3_
              have hn1 : ¬ H < 1 := by omega
              exact reg40_yes _ _ _ _ _ _ _ _ _ _ _ _ hs19 q5_19 q6_19 q11_19 q62_19 q63_19 q64_19 (Lay.bl (HFwc4.out)) c00 c01 HL HZ1 HZ2 w1_ w2_ w3_ w4_ w5_ hn1 _ _ _ hJ hK
          case rest6 =>
            intro a' wc6 hR6
            obtain ⟨T20, rfl, hs20, q619_20, hB6⟩ := hR6
            have f619_20 := fun hh => getq q619_20 hh
            have HB6 := Lib.hid hB6
            clear hB6
            go_wp2_with fail
            refine wp_cond_f ?_ ?_
            · go_simp
            go_upto_region 47 with fail
            refine reframe fun T21 hT => ?_
            have hs21 : T21.size = 636 := by subst hT; simp [hs20]
            clear hT f619_20 hs20 q619_20
            go_wp2
            go_ret
            exact ⟨by simp [hs21], HB6.out⟩
end Go.Proofs.Ytbnkigponkelpaa

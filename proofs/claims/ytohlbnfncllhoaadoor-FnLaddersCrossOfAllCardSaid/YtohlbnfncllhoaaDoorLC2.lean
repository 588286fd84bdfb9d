/- The law FnLaddersCrossOfAll: its walk. -/
import Derived.Test.YtohlbnfncllhoaaDoorLCA
namespace Go.Proofs.YtohlbnfncllhoaaDoor
open Go.RowKit
set_option linter.unusedVariables false
set_option linter.unusedSimpArgs false
open FnLaddersCrossOfAll
attribute [local irreducible] Array.setIfInBounds
set_option maxHeartbeats 8000000 in
set_option maxRecDepth 100000 in
theorem cross_all (a b c ua ub uc : Int) (rt : Bool) (p h n k za zb zc v : Int) (w : World) (hT : Tab w) (hE : Errs w) (hM : MaxL w) :
    Calls Tryd.prog 4 #[.agg #[.int .i64 a, .int .i64 b, .int .i64 c], .agg #[.int .i64 ua, .int .i64 ub, .int .i64 uc], .bool rt, .int .i64 p, .int .i64 h, .int .i64 n, .int .i64 k, .agg #[.int .i64 za, .int .i64 zb, .int .i64 zc], .int .i64 v] w fun e w' => e = .returned (.bool true) ∧ Below w.heap.size w w' := by
  obtain ⟨N, D, X, Y, G, H, U, V, K, M, m1, m2, m3, tx, OK, HA1, HA2, HB1, HB2, HC1, HC2, HD1, HD2, HE1, HE2, HT1, HT2, HM1, HM2, HL1, HL2, FA_⟩ := pack_LA a b c
  obtain ⟨R1, S1, X1, Y1, P1, Q1, OB, HG1, HG2, HH1, HH2, FB_⟩ := pack_LB ua ub uc rt p
  obtain ⟨P2, Q2, OC, HO1, HO2, FC_⟩ := pack_LC h n k
  obtain ⟨n1, n2, n3, P3, Q3, OM, HV1, HV2, FD_⟩ := pack_LD za zb zc v
  have FA := Lib.hid FA_
  have FB := Lib.hid FB_
  have FC := Lib.hid FC_
  have FD := Lib.hid FD_
  clear FA_ FB_ FC_ FD_
  have HTA := Lib.hid hT
  have HER := Lib.hid hE
  have HMX := Lib.hid hM
  clear hT hE hM
  go_enter Tryd.func4, Tryd.ntmps4
  refine reframe fun T1 hT => ?_
  have hs1 : T1.size = 702 := by rw [hT]; rfl
  have f0_1 : ∀ hh : 0 < T1.size, T1[0]'hh = .agg #[.int .i64 a, .int .i64 b, .int .i64 c] := by subst hT; intro hh; rfl
  have f1_1 : ∀ hh : 1 < T1.size, T1[1]'hh = .agg #[.int .i64 ua, .int .i64 ub, .int .i64 uc] := by subst hT; intro hh; rfl
  have f2_1 : ∀ hh : 2 < T1.size, T1[2]'hh = .bool rt := by subst hT; intro hh; rfl
  have f3_1 : ∀ hh : 3 < T1.size, T1[3]'hh = .int .i64 p := by subst hT; intro hh; rfl
  have f4_1 : ∀ hh : 4 < T1.size, T1[4]'hh = .int .i64 h := by subst hT; intro hh; rfl
  have f5_1 : ∀ hh : 5 < T1.size, T1[5]'hh = .int .i64 n := by subst hT; intro hh; rfl
  have f6_1 : ∀ hh : 6 < T1.size, T1[6]'hh = .int .i64 k := by subst hT; intro hh; rfl
  have f7_1 : ∀ hh : 7 < T1.size, T1[7]'hh = .agg #[.int .i64 za, .int .i64 zb, .int .i64 zc] := by subst hT; intro hh; rfl
  have f8_1 : ∀ hh : 8 < T1.size, T1[8]'hh = .int .i64 v := by subst hT; intro hh; rfl
  have q0_1 := putq (by rw [hs1]; decide) f0_1
  have q1_1 := putq (by rw [hs1]; decide) f1_1
  have q2_1 := putq (by rw [hs1]; decide) f2_1
  have q3_1 := putq (by rw [hs1]; decide) f3_1
  have q4_1 := putq (by rw [hs1]; decide) f4_1
  have q5_1 := putq (by rw [hs1]; decide) f5_1
  have q6_1 := putq (by rw [hs1]; decide) f6_1
  have q7_1 := putq (by rw [hs1]; decide) f7_1
  have q8_1 := putq (by rw [hs1]; decide) f8_1
  clear hT
  go_wp2_with fail
  refine ((HA1 _).out).mono ?_
  rintro e w101 ⟨rfl, hb_⟩
  have HFw101 := Lib.hid (Lay.after (w := w) (B := [(w.heap.size, a, b, c), (w.heap.size + 1, ua, ub, uc), (w.heap.size + 1 + 1, za, zb, zc)]) (Lay.c (g := w.heap.size) (x0 := a) (x1 := b) (x2 := c) (by simp [go_sem]) (by simp [go_sem]) (by simp [go_sem]) (by first | (simp; done) | (simp; omega)) (Lay.c (g := w.heap.size + 1) (x0 := ua) (x1 := ub) (x2 := uc) (by simp [go_sem]) (by simp [go_sem]) (by simp [go_sem]) (by first | (simp; done) | (simp; omega)) (Lay.c (g := w.heap.size + 1 + 1) (x0 := za) (x1 := zb) (x2 := zc) (by simp [go_sem]) (by simp [go_sem]) (by simp [go_sem]) (by first | (simp; done) | (simp; omega)) ((show Lay w [] _ from (by repeat (first | exact Below.refl _ _ | refine bl_alloc ?_ _))))))) hb_)
  clear hb_ 
  obtain ⟨c00, c01, c02, z0, c10, c11, c12, z1, c20, c21, c22, z2, hbl⟩ := Lay.op (HFw101.out)
  clear hbl
  go_wp2_with fail
  refine ((HA2 _).out).mono ?_
  rintro e w102 ⟨rfl, hb_⟩
  have HFw102 := Lib.hid (Lay.after (w := w) (B := [(w.heap.size, a, b, c), (w.heap.size + 1, ua, ub, uc), (w.heap.size + 1 + 1, za, zb, zc)]) (Lay.after (HFw101.out) (by repeat (first | exact Below.refl _ _ | refine bl_alloc ?_ _ | refine bl_drewN ?_ _ | refine bl_set ?_ (by first | omega | (simp; done) | (simp; omega)) _))) hb_)
  clear hb_ c00 c01 c02 z0 c10 c11 c12 z1 c20 c21 c22 z2
  obtain ⟨c00, c01, c02, z0, c10, c11, c12, z1, c20, c21, c22, z2, hbl⟩ := Lay.op (HFw102.out)
  clear hbl
  go_wp2_with fail
  refine ((HB1 _).out).mono ?_
  rintro e w103 ⟨rfl, hb_⟩
  have HFw103 := Lib.hid (Lay.after (w := w) (B := [(w.heap.size, a, b, c), (w.heap.size + 1, ua, ub, uc), (w.heap.size + 1 + 1, za, zb, zc)]) (Lay.after (HFw102.out) (by repeat (first | exact Below.refl _ _ | refine bl_alloc ?_ _ | refine bl_drewN ?_ _ | refine bl_set ?_ (by first | omega | (simp; done) | (simp; omega)) _))) hb_)
  clear hb_ c00 c01 c02 z0 c10 c11 c12 z1 c20 c21 c22 z2
  obtain ⟨c00, c01, c02, z0, c10, c11, c12, z1, c20, c21, c22, z2, hbl⟩ := Lay.op (HFw103.out)
  clear hbl
  go_wp2_with fail
  refine ((HB2 _).out).mono ?_
  rintro e w104 ⟨rfl, hb_⟩
  have HFw104 := Lib.hid (Lay.after (w := w) (B := [(w.heap.size, a, b, c), (w.heap.size + 1, ua, ub, uc), (w.heap.size + 1 + 1, za, zb, zc)]) (Lay.after (HFw103.out) (by repeat (first | exact Below.refl _ _ | refine bl_alloc ?_ _ | refine bl_drewN ?_ _ | refine bl_set ?_ (by first | omega | (simp; done) | (simp; omega)) _))) hb_)
  clear hb_ c00 c01 c02 z0 c10 c11 c12 z1 c20 c21 c22 z2
  obtain ⟨c00, c01, c02, z0, c10, c11, c12, z1, c20, c21, c22, z2, hbl⟩ := Lay.op (HFw104.out)
  clear hbl
  go_upto_region 5 with fail
  refine reframe fun T2 hT => ?_
  have hs2 : T2.size = 702 := by subst hT; simp [hs1]
  have q9_2 : At T2 9 (.pointer (some ⟨w.heap.size, 0, none⟩)) := by subst hT; exact (by first | (simp only [At, ↓Array.getElem?_setIfInBounds_ne, ne_eq, Nat.reduceEqDiff, not_false_eq_true]; done) | simp [At, hs1, f0_1, f1_1, f2_1, f3_1, f4_1, f5_1, f6_1, f7_1, f8_1])
  have f9_2 := fun hh => getq q9_2 hh
  have q2_2 : At T2 2 (.bool rt) := by subst hT; exact (by first | (simp only [At, ↓Array.getElem?_setIfInBounds_ne, ne_eq, Nat.reduceEqDiff, not_false_eq_true, q2_1]; done) | simp [At, hs1, f0_1, f1_1, f2_1, f3_1, f4_1, f5_1, f6_1, f7_1, f8_1])
  have f2_2 := fun hh => getq q2_2 hh
  have q3_2 : At T2 3 (.int .i64 p) := by subst hT; exact (by first | (simp only [At, ↓Array.getElem?_setIfInBounds_ne, ne_eq, Nat.reduceEqDiff, not_false_eq_true, q3_1]; done) | simp [At, hs1, f0_1, f1_1, f2_1, f3_1, f4_1, f5_1, f6_1, f7_1, f8_1])
  have f3_2 := fun hh => getq q3_2 hh
  have q4_2 : At T2 4 (.int .i64 h) := by subst hT; exact (by first | (simp only [At, ↓Array.getElem?_setIfInBounds_ne, ne_eq, Nat.reduceEqDiff, not_false_eq_true, q4_1]; done) | simp [At, hs1, f0_1, f1_1, f2_1, f3_1, f4_1, f5_1, f6_1, f7_1, f8_1])
  have f4_2 := fun hh => getq q4_2 hh
  have q5_2 : At T2 5 (.int .i64 n) := by subst hT; exact (by first | (simp only [At, ↓Array.getElem?_setIfInBounds_ne, ne_eq, Nat.reduceEqDiff, not_false_eq_true, q5_1]; done) | simp [At, hs1, f0_1, f1_1, f2_1, f3_1, f4_1, f5_1, f6_1, f7_1, f8_1])
  have f5_2 := fun hh => getq q5_2 hh
  have q6_2 : At T2 6 (.int .i64 k) := by subst hT; exact (by first | (simp only [At, ↓Array.getElem?_setIfInBounds_ne, ne_eq, Nat.reduceEqDiff, not_false_eq_true, q6_1]; done) | simp [At, hs1, f0_1, f1_1, f2_1, f3_1, f4_1, f5_1, f6_1, f7_1, f8_1])
  have f6_2 := fun hh => getq q6_2 hh
  have q8_2 : At T2 8 (.int .i64 v) := by subst hT; exact (by first | (simp only [At, ↓Array.getElem?_setIfInBounds_ne, ne_eq, Nat.reduceEqDiff, not_false_eq_true, q8_1]; done) | simp [At, hs1, f0_1, f1_1, f2_1, f3_1, f4_1, f5_1, f6_1, f7_1, f8_1])
  have f8_2 := fun hh => getq q8_2 hh
  have q10_2 : At T2 10 (.pointer (some ⟨w.heap.size + 1, 0, none⟩)) := by subst hT; exact (by first | (simp only [At, ↓Array.getElem?_setIfInBounds_ne, ne_eq, Nat.reduceEqDiff, not_false_eq_true]; done) | simp [At, hs1, f0_1, f1_1, f2_1, f3_1, f4_1, f5_1, f6_1, f7_1, f8_1])
  have f10_2 := fun hh => getq q10_2 hh
  have q16_2 : At T2 16 (.pointer (some ⟨w.heap.size + 1 + 1, 0, none⟩)) := by subst hT; exact (by first | (simp only [At, ↓Array.getElem?_setIfInBounds_ne, ne_eq, Nat.reduceEqDiff, not_false_eq_true]; done) | simp [At, hs1, f0_1, f1_1, f2_1, f3_1, f4_1, f5_1, f6_1, f7_1, f8_1])
  have f16_2 := fun hh => getq q16_2 hh
  have q19_2 : At T2 19 (.int .i64 N) := by subst hT; exact (by first | (simp only [At, ↓Array.getElem?_setIfInBounds_ne, ne_eq, Nat.reduceEqDiff, not_false_eq_true]; done) | simp [At, hs1, f0_1, f1_1, f2_1, f3_1, f4_1, f5_1, f6_1, f7_1, f8_1])
  have f19_2 := fun hh => getq q19_2 hh
  have q20_2 : At T2 20 (.int .i64 D) := by subst hT; exact (by first | (simp only [At, ↓Array.getElem?_setIfInBounds_ne, ne_eq, Nat.reduceEqDiff, not_false_eq_true]; done) | simp [At, hs1, f0_1, f1_1, f2_1, f3_1, f4_1, f5_1, f6_1, f7_1, f8_1])
  have f20_2 := fun hh => getq q20_2 hh
  have q21_2 : At T2 21 (.bool OK) := by subst hT; exact (by first | (simp only [At, ↓Array.getElem?_setIfInBounds_ne, ne_eq, Nat.reduceEqDiff, not_false_eq_true]; done) | simp [At, hs1, f0_1, f1_1, f2_1, f3_1, f4_1, f5_1, f6_1, f7_1, f8_1])
  have f21_2 := fun hh => getq q21_2 hh
  have q22_2 : At T2 22 (.int .i64 N) := by subst hT; exact (by first | (simp only [At, ↓Array.getElem?_setIfInBounds_ne, ne_eq, Nat.reduceEqDiff, not_false_eq_true]; done) | simp [At, hs1, f0_1, f1_1, f2_1, f3_1, f4_1, f5_1, f6_1, f7_1, f8_1])
  have f22_2 := fun hh => getq q22_2 hh
  have q23_2 : At T2 23 (.int .i64 D) := by subst hT; exact (by first | (simp only [At, ↓Array.getElem?_setIfInBounds_ne, ne_eq, Nat.reduceEqDiff, not_false_eq_true]; done) | simp [At, hs1, f0_1, f1_1, f2_1, f3_1, f4_1, f5_1, f6_1, f7_1, f8_1])
  have f23_2 := fun hh => getq q23_2 hh
  have q24_2 : At T2 24 (.bool OK) := by subst hT; exact (by first | (simp only [At, ↓Array.getElem?_setIfInBounds_ne, ne_eq, Nat.reduceEqDiff, not_false_eq_true]; done) | simp [At, hs1, f0_1, f1_1, f2_1, f3_1, f4_1, f5_1, f6_1, f7_1, f8_1])
  have f24_2 := fun hh => getq q24_2 hh
  have q25_2 : At T2 25 (.int .i64 X) := by subst hT; exact (by first | (simp only [At, ↓Array.getElem?_setIfInBounds_ne, ne_eq, Nat.reduceEqDiff, not_false_eq_true]; done) | simp [At, hs1, f0_1, f1_1, f2_1, f3_1, f4_1, f5_1, f6_1, f7_1, f8_1])
  have f25_2 := fun hh => getq q25_2 hh
  have q26_2 : At T2 26 (.int .i64 Y) := by subst hT; exact (by first | (simp only [At, ↓Array.getElem?_setIfInBounds_ne, ne_eq, Nat.reduceEqDiff, not_false_eq_true]; done) | simp [At, hs1, f0_1, f1_1, f2_1, f3_1, f4_1, f5_1, f6_1, f7_1, f8_1])
  have f26_2 := fun hh => getq q26_2 hh
  have q27_2 : At T2 27 (.bool OK) := by subst hT; exact (by first | (simp only [At, ↓Array.getElem?_setIfInBounds_ne, ne_eq, Nat.reduceEqDiff, not_false_eq_true]; done) | simp [At, hs1, f0_1, f1_1, f2_1, f3_1, f4_1, f5_1, f6_1, f7_1, f8_1])
  have f27_2 := fun hh => getq q27_2 hh
  have q28_2 : At T2 28 (.int .i64 X) := by subst hT; exact (by first | (simp only [At, ↓Array.getElem?_setIfInBounds_ne, ne_eq, Nat.reduceEqDiff, not_false_eq_true]; done) | simp [At, hs1, f0_1, f1_1, f2_1, f3_1, f4_1, f5_1, f6_1, f7_1, f8_1])
  have f28_2 := fun hh => getq q28_2 hh
  have q29_2 : At T2 29 (.int .i64 Y) := by subst hT; exact (by first | (simp only [At, ↓Array.getElem?_setIfInBounds_ne, ne_eq, Nat.reduceEqDiff, not_false_eq_true]; done) | simp [At, hs1, f0_1, f1_1, f2_1, f3_1, f4_1, f5_1, f6_1, f7_1, f8_1])
  have f29_2 := fun hh => getq q29_2 hh
  have q30_2 : At T2 30 (.bool OK) := by subst hT; exact (by first | (simp only [At, ↓Array.getElem?_setIfInBounds_ne, ne_eq, Nat.reduceEqDiff, not_false_eq_true]; done) | simp [At, hs1, f0_1, f1_1, f2_1, f3_1, f4_1, f5_1, f6_1, f7_1, f8_1])
  have f30_2 := fun hh => getq q30_2 hh
  clear hT f8_1 f7_1 f6_1 f5_1 f4_1 f3_1 f2_1 f1_1 f0_1 hs1 q0_1 q1_1 q2_1 q3_1 q4_1 q5_1 q6_1 q7_1 q8_1
  go_wp2_with fail
  refine ((HC1 _).out).mono ?_
  rintro e w105 ⟨rfl, hb_⟩
  have HFw105 := Lib.hid (Lay.after (w := w) (B := [(w.heap.size, a, b, c), (w.heap.size + 1, ua, ub, uc), (w.heap.size + 1 + 1, za, zb, zc)]) (Lay.after (HFw104.out) (by repeat (first | exact Below.refl _ _ | refine bl_alloc ?_ _ | refine bl_drewN ?_ _ | refine bl_set ?_ (by first | omega | (simp; done) | (simp; omega)) _))) hb_)
  clear hb_ c00 c01 c02 z0 c10 c11 c12 z1 c20 c21 c22 z2
  obtain ⟨c00, c01, c02, z0, c10, c11, c12, z1, c20, c21, c22, z2, hbl⟩ := Lay.op (HFw105.out)
  clear hbl
  go_wp2_with fail
  refine ((HC2 _).out).mono ?_
  rintro e w106 ⟨rfl, hb_⟩
  have HFw106 := Lib.hid (Lay.after (w := w) (B := [(w.heap.size, a, b, c), (w.heap.size + 1, ua, ub, uc), (w.heap.size + 1 + 1, za, zb, zc)]) (Lay.after (HFw105.out) (by repeat (first | exact Below.refl _ _ | refine bl_alloc ?_ _ | refine bl_drewN ?_ _ | refine bl_set ?_ (by first | omega | (simp; done) | (simp; omega)) _))) hb_)
  clear hb_ c00 c01 c02 z0 c10 c11 c12 z1 c20 c21 c22 z2
  obtain ⟨c00, c01, c02, z0, c10, c11, c12, z1, c20, c21, c22, z2, hbl⟩ := Lay.op (HFw106.out)
  clear hbl
  go_wp2_with fail
  refine ((HD1 _).out).mono ?_
  rintro e w107 ⟨rfl, hb_⟩
  have HFw107 := Lib.hid (Lay.after (w := w) (B := [(w.heap.size, a, b, c), (w.heap.size + 1, ua, ub, uc), (w.heap.size + 1 + 1, za, zb, zc)]) (Lay.after (HFw106.out) (by repeat (first | exact Below.refl _ _ | refine bl_alloc ?_ _ | refine bl_drewN ?_ _ | refine bl_set ?_ (by first | omega | (simp; done) | (simp; omega)) _))) hb_)
  clear hb_ c00 c01 c02 z0 c10 c11 c12 z1 c20 c21 c22 z2
  obtain ⟨c00, c01, c02, z0, c10, c11, c12, z1, c20, c21, c22, z2, hbl⟩ := Lay.op (HFw107.out)
  clear hbl
  go_wp2_with fail
  refine ((HD2 _).out).mono ?_
  rintro e w108 ⟨rfl, hb_⟩
  have HFw108 := Lib.hid (Lay.after (w := w) (B := [(w.heap.size, a, b, c), (w.heap.size + 1, ua, ub, uc), (w.heap.size + 1 + 1, za, zb, zc)]) (Lay.after (HFw107.out) (by repeat (first | exact Below.refl _ _ | refine bl_alloc ?_ _ | refine bl_drewN ?_ _ | refine bl_set ?_ (by first | omega | (simp; done) | (simp; omega)) _))) hb_)
  clear hb_ c00 c01 c02 z0 c10 c11 c12 z1 c20 c21 c22 z2
  obtain ⟨c00, c01, c02, z0, c10, c11, c12, z1, c20, c21, c22, z2, hbl⟩ := Lay.op (HFw108.out)
  clear hbl
  go_upto_region 9 with fail
  refine reframe fun T3 hT => ?_
  have hs3 : T3.size = 702 := by subst hT; simp [hs2]
  have q9_3 : At T3 9 (.pointer (some ⟨w.heap.size, 0, none⟩)) := by subst hT; exact (by first | (simp only [At, ↓Array.getElem?_setIfInBounds_ne, ne_eq, Nat.reduceEqDiff, not_false_eq_true, q9_2]; done) | simp [At, hs2, f9_2, f2_2, f3_2, f4_2, f5_2, f6_2, f8_2, f10_2, f16_2, f19_2, f20_2, f21_2, f22_2, f23_2, f24_2, f25_2, f26_2, f27_2, f28_2, f29_2, f30_2])
  have f9_3 := fun hh => getq q9_3 hh
  have q2_3 : At T3 2 (.bool rt) := by subst hT; exact (by first | (simp only [At, ↓Array.getElem?_setIfInBounds_ne, ne_eq, Nat.reduceEqDiff, not_false_eq_true, q2_2]; done) | simp [At, hs2, f9_2, f2_2, f3_2, f4_2, f5_2, f6_2, f8_2, f10_2, f16_2, f19_2, f20_2, f21_2, f22_2, f23_2, f24_2, f25_2, f26_2, f27_2, f28_2, f29_2, f30_2])
  have f2_3 := fun hh => getq q2_3 hh
  have q3_3 : At T3 3 (.int .i64 p) := by subst hT; exact (by first | (simp only [At, ↓Array.getElem?_setIfInBounds_ne, ne_eq, Nat.reduceEqDiff, not_false_eq_true, q3_2]; done) | simp [At, hs2, f9_2, f2_2, f3_2, f4_2, f5_2, f6_2, f8_2, f10_2, f16_2, f19_2, f20_2, f21_2, f22_2, f23_2, f24_2, f25_2, f26_2, f27_2, f28_2, f29_2, f30_2])
  have f3_3 := fun hh => getq q3_3 hh
  have q4_3 : At T3 4 (.int .i64 h) := by subst hT; exact (by first | (simp only [At, ↓Array.getElem?_setIfInBounds_ne, ne_eq, Nat.reduceEqDiff, not_false_eq_true, q4_2]; done) | simp [At, hs2, f9_2, f2_2, f3_2, f4_2, f5_2, f6_2, f8_2, f10_2, f16_2, f19_2, f20_2, f21_2, f22_2, f23_2, f24_2, f25_2, f26_2, f27_2, f28_2, f29_2, f30_2])
  have f4_3 := fun hh => getq q4_3 hh
  have q5_3 : At T3 5 (.int .i64 n) := by subst hT; exact (by first | (simp only [At, ↓Array.getElem?_setIfInBounds_ne, ne_eq, Nat.reduceEqDiff, not_false_eq_true, q5_2]; done) | simp [At, hs2, f9_2, f2_2, f3_2, f4_2, f5_2, f6_2, f8_2, f10_2, f16_2, f19_2, f20_2, f21_2, f22_2, f23_2, f24_2, f25_2, f26_2, f27_2, f28_2, f29_2, f30_2])
  have f5_3 := fun hh => getq q5_3 hh
  have q6_3 : At T3 6 (.int .i64 k) := by subst hT; exact (by first | (simp only [At, ↓Array.getElem?_setIfInBounds_ne, ne_eq, Nat.reduceEqDiff, not_false_eq_true, q6_2]; done) | simp [At, hs2, f9_2, f2_2, f3_2, f4_2, f5_2, f6_2, f8_2, f10_2, f16_2, f19_2, f20_2, f21_2, f22_2, f23_2, f24_2, f25_2, f26_2, f27_2, f28_2, f29_2, f30_2])
  have f6_3 := fun hh => getq q6_3 hh
  have q8_3 : At T3 8 (.int .i64 v) := by subst hT; exact (by first | (simp only [At, ↓Array.getElem?_setIfInBounds_ne, ne_eq, Nat.reduceEqDiff, not_false_eq_true, q8_2]; done) | simp [At, hs2, f9_2, f2_2, f3_2, f4_2, f5_2, f6_2, f8_2, f10_2, f16_2, f19_2, f20_2, f21_2, f22_2, f23_2, f24_2, f25_2, f26_2, f27_2, f28_2, f29_2, f30_2])
  have f8_3 := fun hh => getq q8_3 hh
  have q10_3 : At T3 10 (.pointer (some ⟨w.heap.size + 1, 0, none⟩)) := by subst hT; exact (by first | (simp only [At, ↓Array.getElem?_setIfInBounds_ne, ne_eq, Nat.reduceEqDiff, not_false_eq_true, q10_2]; done) | simp [At, hs2, f9_2, f2_2, f3_2, f4_2, f5_2, f6_2, f8_2, f10_2, f16_2, f19_2, f20_2, f21_2, f22_2, f23_2, f24_2, f25_2, f26_2, f27_2, f28_2, f29_2, f30_2])
  have f10_3 := fun hh => getq q10_3 hh
  have q16_3 : At T3 16 (.pointer (some ⟨w.heap.size + 1 + 1, 0, none⟩)) := by subst hT; exact (by first | (simp only [At, ↓Array.getElem?_setIfInBounds_ne, ne_eq, Nat.reduceEqDiff, not_false_eq_true, q16_2]; done) | simp [At, hs2, f9_2, f2_2, f3_2, f4_2, f5_2, f6_2, f8_2, f10_2, f16_2, f19_2, f20_2, f21_2, f22_2, f23_2, f24_2, f25_2, f26_2, f27_2, f28_2, f29_2, f30_2])
  have f16_3 := fun hh => getq q16_3 hh
  have q19_3 : At T3 19 (.int .i64 N) := by subst hT; exact (by first | (simp only [At, ↓Array.getElem?_setIfInBounds_ne, ne_eq, Nat.reduceEqDiff, not_false_eq_true, q19_2]; done) | simp [At, hs2, f9_2, f2_2, f3_2, f4_2, f5_2, f6_2, f8_2, f10_2, f16_2, f19_2, f20_2, f21_2, f22_2, f23_2, f24_2, f25_2, f26_2, f27_2, f28_2, f29_2, f30_2])
  have f19_3 := fun hh => getq q19_3 hh
  have q20_3 : At T3 20 (.int .i64 D) := by subst hT; exact (by first | (simp only [At, ↓Array.getElem?_setIfInBounds_ne, ne_eq, Nat.reduceEqDiff, not_false_eq_true, q20_2]; done) | simp [At, hs2, f9_2, f2_2, f3_2, f4_2, f5_2, f6_2, f8_2, f10_2, f16_2, f19_2, f20_2, f21_2, f22_2, f23_2, f24_2, f25_2, f26_2, f27_2, f28_2, f29_2, f30_2])
  have f20_3 := fun hh => getq q20_3 hh
  have q21_3 : At T3 21 (.bool OK) := by subst hT; exact (by first | (simp only [At, ↓Array.getElem?_setIfInBounds_ne, ne_eq, Nat.reduceEqDiff, not_false_eq_true, q21_2]; done) | simp [At, hs2, f9_2, f2_2, f3_2, f4_2, f5_2, f6_2, f8_2, f10_2, f16_2, f19_2, f20_2, f21_2, f22_2, f23_2, f24_2, f25_2, f26_2, f27_2, f28_2, f29_2, f30_2])
  have f21_3 := fun hh => getq q21_3 hh
  have q22_3 : At T3 22 (.int .i64 N) := by subst hT; exact (by first | (simp only [At, ↓Array.getElem?_setIfInBounds_ne, ne_eq, Nat.reduceEqDiff, not_false_eq_true, q22_2]; done) | simp [At, hs2, f9_2, f2_2, f3_2, f4_2, f5_2, f6_2, f8_2, f10_2, f16_2, f19_2, f20_2, f21_2, f22_2, f23_2, f24_2, f25_2, f26_2, f27_2, f28_2, f29_2, f30_2])
  have f22_3 := fun hh => getq q22_3 hh
  have q23_3 : At T3 23 (.int .i64 D) := by subst hT; exact (by first | (simp only [At, ↓Array.getElem?_setIfInBounds_ne, ne_eq, Nat.reduceEqDiff, not_false_eq_true, q23_2]; done) | simp [At, hs2, f9_2, f2_2, f3_2, f4_2, f5_2, f6_2, f8_2, f10_2, f16_2, f19_2, f20_2, f21_2, f22_2, f23_2, f24_2, f25_2, f26_2, f27_2, f28_2, f29_2, f30_2])
  have f23_3 := fun hh => getq q23_3 hh
  have q24_3 : At T3 24 (.bool OK) := by subst hT; exact (by first | (simp only [At, ↓Array.getElem?_setIfInBounds_ne, ne_eq, Nat.reduceEqDiff, not_false_eq_true, q24_2]; done) | simp [At, hs2, f9_2, f2_2, f3_2, f4_2, f5_2, f6_2, f8_2, f10_2, f16_2, f19_2, f20_2, f21_2, f22_2, f23_2, f24_2, f25_2, f26_2, f27_2, f28_2, f29_2, f30_2])
  have f24_3 := fun hh => getq q24_3 hh
  have q25_3 : At T3 25 (.int .i64 X) := by subst hT; exact (by first | (simp only [At, ↓Array.getElem?_setIfInBounds_ne, ne_eq, Nat.reduceEqDiff, not_false_eq_true, q25_2]; done) | simp [At, hs2, f9_2, f2_2, f3_2, f4_2, f5_2, f6_2, f8_2, f10_2, f16_2, f19_2, f20_2, f21_2, f22_2, f23_2, f24_2, f25_2, f26_2, f27_2, f28_2, f29_2, f30_2])
  have f25_3 := fun hh => getq q25_3 hh
  have q26_3 : At T3 26 (.int .i64 Y) := by subst hT; exact (by first | (simp only [At, ↓Array.getElem?_setIfInBounds_ne, ne_eq, Nat.reduceEqDiff, not_false_eq_true, q26_2]; done) | simp [At, hs2, f9_2, f2_2, f3_2, f4_2, f5_2, f6_2, f8_2, f10_2, f16_2, f19_2, f20_2, f21_2, f22_2, f23_2, f24_2, f25_2, f26_2, f27_2, f28_2, f29_2, f30_2])
  have f26_3 := fun hh => getq q26_3 hh
  have q27_3 : At T3 27 (.bool OK) := by subst hT; exact (by first | (simp only [At, ↓Array.getElem?_setIfInBounds_ne, ne_eq, Nat.reduceEqDiff, not_false_eq_true, q27_2]; done) | simp [At, hs2, f9_2, f2_2, f3_2, f4_2, f5_2, f6_2, f8_2, f10_2, f16_2, f19_2, f20_2, f21_2, f22_2, f23_2, f24_2, f25_2, f26_2, f27_2, f28_2, f29_2, f30_2])
  have f27_3 := fun hh => getq q27_3 hh
  have q28_3 : At T3 28 (.int .i64 X) := by subst hT; exact (by first | (simp only [At, ↓Array.getElem?_setIfInBounds_ne, ne_eq, Nat.reduceEqDiff, not_false_eq_true, q28_2]; done) | simp [At, hs2, f9_2, f2_2, f3_2, f4_2, f5_2, f6_2, f8_2, f10_2, f16_2, f19_2, f20_2, f21_2, f22_2, f23_2, f24_2, f25_2, f26_2, f27_2, f28_2, f29_2, f30_2])
  have f28_3 := fun hh => getq q28_3 hh
  have q29_3 : At T3 29 (.int .i64 Y) := by subst hT; exact (by first | (simp only [At, ↓Array.getElem?_setIfInBounds_ne, ne_eq, Nat.reduceEqDiff, not_false_eq_true, q29_2]; done) | simp [At, hs2, f9_2, f2_2, f3_2, f4_2, f5_2, f6_2, f8_2, f10_2, f16_2, f19_2, f20_2, f21_2, f22_2, f23_2, f24_2, f25_2, f26_2, f27_2, f28_2, f29_2, f30_2])
  have f29_3 := fun hh => getq q29_3 hh
  have q30_3 : At T3 30 (.bool OK) := by subst hT; exact (by first | (simp only [At, ↓Array.getElem?_setIfInBounds_ne, ne_eq, Nat.reduceEqDiff, not_false_eq_true, q30_2]; done) | simp [At, hs2, f9_2, f2_2, f3_2, f4_2, f5_2, f6_2, f8_2, f10_2, f16_2, f19_2, f20_2, f21_2, f22_2, f23_2, f24_2, f25_2, f26_2, f27_2, f28_2, f29_2, f30_2])
  have f30_3 := fun hh => getq q30_3 hh
  have q31_3 : At T3 31 (.int .i64 G) := by subst hT; exact (by first | (simp only [At, ↓Array.getElem?_setIfInBounds_ne, ne_eq, Nat.reduceEqDiff, not_false_eq_true]; done) | simp [At, hs2, f9_2, f2_2, f3_2, f4_2, f5_2, f6_2, f8_2, f10_2, f16_2, f19_2, f20_2, f21_2, f22_2, f23_2, f24_2, f25_2, f26_2, f27_2, f28_2, f29_2, f30_2])
  have f31_3 := fun hh => getq q31_3 hh
  have q32_3 : At T3 32 (.int .i64 H) := by subst hT; exact (by first | (simp only [At, ↓Array.getElem?_setIfInBounds_ne, ne_eq, Nat.reduceEqDiff, not_false_eq_true]; done) | simp [At, hs2, f9_2, f2_2, f3_2, f4_2, f5_2, f6_2, f8_2, f10_2, f16_2, f19_2, f20_2, f21_2, f22_2, f23_2, f24_2, f25_2, f26_2, f27_2, f28_2, f29_2, f30_2])
  have f32_3 := fun hh => getq q32_3 hh
  have q33_3 : At T3 33 (.bool OK) := by subst hT; exact (by first | (simp only [At, ↓Array.getElem?_setIfInBounds_ne, ne_eq, Nat.reduceEqDiff, not_false_eq_true]; done) | simp [At, hs2, f9_2, f2_2, f3_2, f4_2, f5_2, f6_2, f8_2, f10_2, f16_2, f19_2, f20_2, f21_2, f22_2, f23_2, f24_2, f25_2, f26_2, f27_2, f28_2, f29_2, f30_2])
  have f33_3 := fun hh => getq q33_3 hh
  have q34_3 : At T3 34 (.int .i64 G) := by subst hT; exact (by first | (simp only [At, ↓Array.getElem?_setIfInBounds_ne, ne_eq, Nat.reduceEqDiff, not_false_eq_true]; done) | simp [At, hs2, f9_2, f2_2, f3_2, f4_2, f5_2, f6_2, f8_2, f10_2, f16_2, f19_2, f20_2, f21_2, f22_2, f23_2, f24_2, f25_2, f26_2, f27_2, f28_2, f29_2, f30_2])
  have f34_3 := fun hh => getq q34_3 hh
  have q35_3 : At T3 35 (.int .i64 H) := by subst hT; exact (by first | (simp only [At, ↓Array.getElem?_setIfInBounds_ne, ne_eq, Nat.reduceEqDiff, not_false_eq_true]; done) | simp [At, hs2, f9_2, f2_2, f3_2, f4_2, f5_2, f6_2, f8_2, f10_2, f16_2, f19_2, f20_2, f21_2, f22_2, f23_2, f24_2, f25_2, f26_2, f27_2, f28_2, f29_2, f30_2])
  have f35_3 := fun hh => getq q35_3 hh
  have q36_3 : At T3 36 (.bool OK) := by subst hT; exact (by first | (simp only [At, ↓Array.getElem?_setIfInBounds_ne, ne_eq, Nat.reduceEqDiff, not_false_eq_true]; done) | simp [At, hs2, f9_2, f2_2, f3_2, f4_2, f5_2, f6_2, f8_2, f10_2, f16_2, f19_2, f20_2, f21_2, f22_2, f23_2, f24_2, f25_2, f26_2, f27_2, f28_2, f29_2, f30_2])
  have f36_3 := fun hh => getq q36_3 hh
  have q37_3 : At T3 37 (.int .i64 U) := by subst hT; exact (by first | (simp only [At, ↓Array.getElem?_setIfInBounds_ne, ne_eq, Nat.reduceEqDiff, not_false_eq_true]; done) | simp [At, hs2, f9_2, f2_2, f3_2, f4_2, f5_2, f6_2, f8_2, f10_2, f16_2, f19_2, f20_2, f21_2, f22_2, f23_2, f24_2, f25_2, f26_2, f27_2, f28_2, f29_2, f30_2])
  have f37_3 := fun hh => getq q37_3 hh
  have q38_3 : At T3 38 (.int .i64 V) := by subst hT; exact (by first | (simp only [At, ↓Array.getElem?_setIfInBounds_ne, ne_eq, Nat.reduceEqDiff, not_false_eq_true]; done) | simp [At, hs2, f9_2, f2_2, f3_2, f4_2, f5_2, f6_2, f8_2, f10_2, f16_2, f19_2, f20_2, f21_2, f22_2, f23_2, f24_2, f25_2, f26_2, f27_2, f28_2, f29_2, f30_2])
  have f38_3 := fun hh => getq q38_3 hh
  have q39_3 : At T3 39 (.bool OK) := by subst hT; exact (by first | (simp only [At, ↓Array.getElem?_setIfInBounds_ne, ne_eq, Nat.reduceEqDiff, not_false_eq_true]; done) | simp [At, hs2, f9_2, f2_2, f3_2, f4_2, f5_2, f6_2, f8_2, f10_2, f16_2, f19_2, f20_2, f21_2, f22_2, f23_2, f24_2, f25_2, f26_2, f27_2, f28_2, f29_2, f30_2])
  have f39_3 := fun hh => getq q39_3 hh
  have q40_3 : At T3 40 (.int .i64 U) := by subst hT; exact (by first | (simp only [At, ↓Array.getElem?_setIfInBounds_ne, ne_eq, Nat.reduceEqDiff, not_false_eq_true]; done) | simp [At, hs2, f9_2, f2_2, f3_2, f4_2, f5_2, f6_2, f8_2, f10_2, f16_2, f19_2, f20_2, f21_2, f22_2, f23_2, f24_2, f25_2, f26_2, f27_2, f28_2, f29_2, f30_2])
  have f40_3 := fun hh => getq q40_3 hh
  have q41_3 : At T3 41 (.int .i64 V) := by subst hT; exact (by first | (simp only [At, ↓Array.getElem?_setIfInBounds_ne, ne_eq, Nat.reduceEqDiff, not_false_eq_true]; done) | simp [At, hs2, f9_2, f2_2, f3_2, f4_2, f5_2, f6_2, f8_2, f10_2, f16_2, f19_2, f20_2, f21_2, f22_2, f23_2, f24_2, f25_2, f26_2, f27_2, f28_2, f29_2, f30_2])
  have f41_3 := fun hh => getq q41_3 hh
  have q42_3 : At T3 42 (.bool OK) := by subst hT; exact (by first | (simp only [At, ↓Array.getElem?_setIfInBounds_ne, ne_eq, Nat.reduceEqDiff, not_false_eq_true]; done) | simp [At, hs2, f9_2, f2_2, f3_2, f4_2, f5_2, f6_2, f8_2, f10_2, f16_2, f19_2, f20_2, f21_2, f22_2, f23_2, f24_2, f25_2, f26_2, f27_2, f28_2, f29_2, f30_2])
  have f42_3 := fun hh => getq q42_3 hh
  clear hT f30_2 f29_2 f28_2 f27_2 f26_2 f25_2 f24_2 f23_2 f22_2 f21_2 f20_2 f19_2 f16_2 f10_2 f8_2 f6_2 f5_2 f4_2 f3_2 f2_2 f9_2 hs2 q9_2 q2_2 q3_2 q4_2 q5_2 q6_2 q8_2 q10_2 q16_2 q19_2 q20_2 q21_2 q22_2 q23_2 q24_2 q25_2 q26_2 q27_2 q28_2 q29_2 q30_2
  go_wp2_with fail
  refine ((HE1 _).out).mono ?_
  rintro e w109 ⟨rfl, hb_⟩
  have HFw109 := Lib.hid (Lay.after (w := w) (B := [(w.heap.size, a, b, c), (w.heap.size + 1, ua, ub, uc), (w.heap.size + 1 + 1, za, zb, zc)]) (Lay.after (HFw108.out) (by repeat (first | exact Below.refl _ _ | refine bl_alloc ?_ _ | refine bl_drewN ?_ _ | refine bl_set ?_ (by first | omega | (simp; done) | (simp; omega)) _))) hb_)
  clear hb_ c00 c01 c02 z0 c10 c11 c12 z1 c20 c21 c22 z2
  obtain ⟨c00, c01, c02, z0, c10, c11, c12, z1, c20, c21, c22, z2, hbl⟩ := Lay.op (HFw109.out)
  clear hbl
  go_wp2_with fail
  refine ((HE2 _).out).mono ?_
  rintro e w110 ⟨rfl, hb_⟩
  have HFw110 := Lib.hid (Lay.after (w := w) (B := [(w.heap.size, a, b, c), (w.heap.size + 1, ua, ub, uc), (w.heap.size + 1 + 1, za, zb, zc)]) (Lay.after (HFw109.out) (by repeat (first | exact Below.refl _ _ | refine bl_alloc ?_ _ | refine bl_drewN ?_ _ | refine bl_set ?_ (by first | omega | (simp; done) | (simp; omega)) _))) hb_)
  clear hb_ c00 c01 c02 z0 c10 c11 c12 z1 c20 c21 c22 z2
  obtain ⟨c00, c01, c02, z0, c10, c11, c12, z1, c20, c21, c22, z2, hbl⟩ := Lay.op (HFw110.out)
  clear hbl
  go_wp2_with fail
  refine ((HT1 _ (HTA.out.below (Lay.bl (HFw110.out)))).out).mono ?_
  rintro e w111 ⟨rfl, hb_⟩
  have HFw111 := Lib.hid (Lay.after (w := w) (B := [(w.heap.size, a, b, c), (w.heap.size + 1, ua, ub, uc), (w.heap.size + 1 + 1, za, zb, zc)]) (Lay.after (HFw110.out) (by repeat (first | exact Below.refl _ _ | refine bl_alloc ?_ _ | refine bl_drewN ?_ _ | refine bl_set ?_ (by first | omega | (simp; done) | (simp; omega)) _))) hb_)
  clear hb_ c00 c01 c02 z0 c10 c11 c12 z1 c20 c21 c22 z2
  obtain ⟨c00, c01, c02, z0, c10, c11, c12, z1, c20, c21, c22, z2, hbl⟩ := Lay.op (HFw111.out)
  clear hbl
  go_wp2_with fail
  refine ((HT2 _).out).mono ?_
  rintro e w112 ⟨rfl, hb_⟩
  have HFw112 := Lib.hid (Lay.after (w := w) (B := [(w.heap.size, a, b, c), (w.heap.size + 1, ua, ub, uc), (w.heap.size + 1 + 1, za, zb, zc)]) (Lay.after (HFw111.out) (by repeat (first | exact Below.refl _ _ | refine bl_alloc ?_ _ | refine bl_drewN ?_ _ | refine bl_set ?_ (by first | omega | (simp; done) | (simp; omega)) _))) hb_)
  clear hb_ c00 c01 c02 z0 c10 c11 c12 z1 c20 c21 c22 z2
  obtain ⟨c00, c01, c02, z0, c10, c11, c12, z1, c20, c21, c22, z2, hbl⟩ := Lay.op (HFw112.out)
  clear hbl
  go_upto_region 13 with fail
  refine reframe fun T4 hT => ?_
  have hs4 : T4.size = 702 := by subst hT; simp [hs3]
  have q9_4 : At T4 9 (.pointer (some ⟨w.heap.size, 0, none⟩)) := by subst hT; exact (by first | (simp only [At, ↓Array.getElem?_setIfInBounds_ne, ne_eq, Nat.reduceEqDiff, not_false_eq_true, q9_3]; done) | simp [At, hs3, f9_3, f2_3, f3_3, f4_3, f5_3, f6_3, f8_3, f10_3, f16_3, f19_3, f20_3, f21_3, f22_3, f23_3, f24_3, f25_3, f26_3, f27_3, f28_3, f29_3, f30_3, f31_3, f32_3, f33_3, f34_3, f35_3, f36_3, f37_3, f38_3, f39_3, f40_3, f41_3, f42_3])
  have f9_4 := fun hh => getq q9_4 hh
  have q2_4 : At T4 2 (.bool rt) := by subst hT; exact (by first | (simp only [At, ↓Array.getElem?_setIfInBounds_ne, ne_eq, Nat.reduceEqDiff, not_false_eq_true, q2_3]; done) | simp [At, hs3, f9_3, f2_3, f3_3, f4_3, f5_3, f6_3, f8_3, f10_3, f16_3, f19_3, f20_3, f21_3, f22_3, f23_3, f24_3, f25_3, f26_3, f27_3, f28_3, f29_3, f30_3, f31_3, f32_3, f33_3, f34_3, f35_3, f36_3, f37_3, f38_3, f39_3, f40_3, f41_3, f42_3])
  have f2_4 := fun hh => getq q2_4 hh
  have q3_4 : At T4 3 (.int .i64 p) := by subst hT; exact (by first | (simp only [At, ↓Array.getElem?_setIfInBounds_ne, ne_eq, Nat.reduceEqDiff, not_false_eq_true, q3_3]; done) | simp [At, hs3, f9_3, f2_3, f3_3, f4_3, f5_3, f6_3, f8_3, f10_3, f16_3, f19_3, f20_3, f21_3, f22_3, f23_3, f24_3, f25_3, f26_3, f27_3, f28_3, f29_3, f30_3, f31_3, f32_3, f33_3, f34_3, f35_3, f36_3, f37_3, f38_3, f39_3, f40_3, f41_3, f42_3])
  have f3_4 := fun hh => getq q3_4 hh
  have q4_4 : At T4 4 (.int .i64 h) := by subst hT; exact (by first | (simp only [At, ↓Array.getElem?_setIfInBounds_ne, ne_eq, Nat.reduceEqDiff, not_false_eq_true, q4_3]; done) | simp [At, hs3, f9_3, f2_3, f3_3, f4_3, f5_3, f6_3, f8_3, f10_3, f16_3, f19_3, f20_3, f21_3, f22_3, f23_3, f24_3, f25_3, f26_3, f27_3, f28_3, f29_3, f30_3, f31_3, f32_3, f33_3, f34_3, f35_3, f36_3, f37_3, f38_3, f39_3, f40_3, f41_3, f42_3])
  have f4_4 := fun hh => getq q4_4 hh
  have q5_4 : At T4 5 (.int .i64 n) := by subst hT; exact (by first | (simp only [At, ↓Array.getElem?_setIfInBounds_ne, ne_eq, Nat.reduceEqDiff, not_false_eq_true, q5_3]; done) | simp [At, hs3, f9_3, f2_3, f3_3, f4_3, f5_3, f6_3, f8_3, f10_3, f16_3, f19_3, f20_3, f21_3, f22_3, f23_3, f24_3, f25_3, f26_3, f27_3, f28_3, f29_3, f30_3, f31_3, f32_3, f33_3, f34_3, f35_3, f36_3, f37_3, f38_3, f39_3, f40_3, f41_3, f42_3])
  have f5_4 := fun hh => getq q5_4 hh
  have q6_4 : At T4 6 (.int .i64 k) := by subst hT; exact (by first | (simp only [At, ↓Array.getElem?_setIfInBounds_ne, ne_eq, Nat.reduceEqDiff, not_false_eq_true, q6_3]; done) | simp [At, hs3, f9_3, f2_3, f3_3, f4_3, f5_3, f6_3, f8_3, f10_3, f16_3, f19_3, f20_3, f21_3, f22_3, f23_3, f24_3, f25_3, f26_3, f27_3, f28_3, f29_3, f30_3, f31_3, f32_3, f33_3, f34_3, f35_3, f36_3, f37_3, f38_3, f39_3, f40_3, f41_3, f42_3])
  have f6_4 := fun hh => getq q6_4 hh
  have q8_4 : At T4 8 (.int .i64 v) := by subst hT; exact (by first | (simp only [At, ↓Array.getElem?_setIfInBounds_ne, ne_eq, Nat.reduceEqDiff, not_false_eq_true, q8_3]; done) | simp [At, hs3, f9_3, f2_3, f3_3, f4_3, f5_3, f6_3, f8_3, f10_3, f16_3, f19_3, f20_3, f21_3, f22_3, f23_3, f24_3, f25_3, f26_3, f27_3, f28_3, f29_3, f30_3, f31_3, f32_3, f33_3, f34_3, f35_3, f36_3, f37_3, f38_3, f39_3, f40_3, f41_3, f42_3])
  have f8_4 := fun hh => getq q8_4 hh
  have q10_4 : At T4 10 (.pointer (some ⟨w.heap.size + 1, 0, none⟩)) := by subst hT; exact (by first | (simp only [At, ↓Array.getElem?_setIfInBounds_ne, ne_eq, Nat.reduceEqDiff, not_false_eq_true, q10_3]; done) | simp [At, hs3, f9_3, f2_3, f3_3, f4_3, f5_3, f6_3, f8_3, f10_3, f16_3, f19_3, f20_3, f21_3, f22_3, f23_3, f24_3, f25_3, f26_3, f27_3, f28_3, f29_3, f30_3, f31_3, f32_3, f33_3, f34_3, f35_3, f36_3, f37_3, f38_3, f39_3, f40_3, f41_3, f42_3])
  have f10_4 := fun hh => getq q10_4 hh
  have q16_4 : At T4 16 (.pointer (some ⟨w.heap.size + 1 + 1, 0, none⟩)) := by subst hT; exact (by first | (simp only [At, ↓Array.getElem?_setIfInBounds_ne, ne_eq, Nat.reduceEqDiff, not_false_eq_true, q16_3]; done) | simp [At, hs3, f9_3, f2_3, f3_3, f4_3, f5_3, f6_3, f8_3, f10_3, f16_3, f19_3, f20_3, f21_3, f22_3, f23_3, f24_3, f25_3, f26_3, f27_3, f28_3, f29_3, f30_3, f31_3, f32_3, f33_3, f34_3, f35_3, f36_3, f37_3, f38_3, f39_3, f40_3, f41_3, f42_3])
  have f16_4 := fun hh => getq q16_4 hh
  have q19_4 : At T4 19 (.int .i64 N) := by subst hT; exact (by first | (simp only [At, ↓Array.getElem?_setIfInBounds_ne, ne_eq, Nat.reduceEqDiff, not_false_eq_true, q19_3]; done) | simp [At, hs3, f9_3, f2_3, f3_3, f4_3, f5_3, f6_3, f8_3, f10_3, f16_3, f19_3, f20_3, f21_3, f22_3, f23_3, f24_3, f25_3, f26_3, f27_3, f28_3, f29_3, f30_3, f31_3, f32_3, f33_3, f34_3, f35_3, f36_3, f37_3, f38_3, f39_3, f40_3, f41_3, f42_3])
  have f19_4 := fun hh => getq q19_4 hh
  have q20_4 : At T4 20 (.int .i64 D) := by subst hT; exact (by first | (simp only [At, ↓Array.getElem?_setIfInBounds_ne, ne_eq, Nat.reduceEqDiff, not_false_eq_true, q20_3]; done) | simp [At, hs3, f9_3, f2_3, f3_3, f4_3, f5_3, f6_3, f8_3, f10_3, f16_3, f19_3, f20_3, f21_3, f22_3, f23_3, f24_3, f25_3, f26_3, f27_3, f28_3, f29_3, f30_3, f31_3, f32_3, f33_3, f34_3, f35_3, f36_3, f37_3, f38_3, f39_3, f40_3, f41_3, f42_3])
  have f20_4 := fun hh => getq q20_4 hh
  have q21_4 : At T4 21 (.bool OK) := by subst hT; exact (by first | (simp only [At, ↓Array.getElem?_setIfInBounds_ne, ne_eq, Nat.reduceEqDiff, not_false_eq_true, q21_3]; done) | simp [At, hs3, f9_3, f2_3, f3_3, f4_3, f5_3, f6_3, f8_3, f10_3, f16_3, f19_3, f20_3, f21_3, f22_3, f23_3, f24_3, f25_3, f26_3, f27_3, f28_3, f29_3, f30_3, f31_3, f32_3, f33_3, f34_3, f35_3, f36_3, f37_3, f38_3, f39_3, f40_3, f41_3, f42_3])
  have f21_4 := fun hh => getq q21_4 hh
  have q22_4 : At T4 22 (.int .i64 N) := by subst hT; exact (by first | (simp only [At, ↓Array.getElem?_setIfInBounds_ne, ne_eq, Nat.reduceEqDiff, not_false_eq_true, q22_3]; done) | simp [At, hs3, f9_3, f2_3, f3_3, f4_3, f5_3, f6_3, f8_3, f10_3, f16_3, f19_3, f20_3, f21_3, f22_3, f23_3, f24_3, f25_3, f26_3, f27_3, f28_3, f29_3, f30_3, f31_3, f32_3, f33_3, f34_3, f35_3, f36_3, f37_3, f38_3, f39_3, f40_3, f41_3, f42_3])
  have f22_4 := fun hh => getq q22_4 hh
  have q23_4 : At T4 23 (.int .i64 D) := by subst hT; exact (by first | (simp only [At, ↓Array.getElem?_setIfInBounds_ne, ne_eq, Nat.reduceEqDiff, not_false_eq_true, q23_3]; done) | simp [At, hs3, f9_3, f2_3, f3_3, f4_3, f5_3, f6_3, f8_3, f10_3, f16_3, f19_3, f20_3, f21_3, f22_3, f23_3, f24_3, f25_3, f26_3, f27_3, f28_3, f29_3, f30_3, f31_3, f32_3, f33_3, f34_3, f35_3, f36_3, f37_3, f38_3, f39_3, f40_3, f41_3, f42_3])
  have f23_4 := fun hh => getq q23_4 hh
  have q24_4 : At T4 24 (.bool OK) := by subst hT; exact (by first | (simp only [At, ↓Array.getElem?_setIfInBounds_ne, ne_eq, Nat.reduceEqDiff, not_false_eq_true, q24_3]; done) | simp [At, hs3, f9_3, f2_3, f3_3, f4_3, f5_3, f6_3, f8_3, f10_3, f16_3, f19_3, f20_3, f21_3, f22_3, f23_3, f24_3, f25_3, f26_3, f27_3, f28_3, f29_3, f30_3, f31_3, f32_3, f33_3, f34_3, f35_3, f36_3, f37_3, f38_3, f39_3, f40_3, f41_3, f42_3])
  have f24_4 := fun hh => getq q24_4 hh
  have q25_4 : At T4 25 (.int .i64 X) := by subst hT; exact (by first | (simp only [At, ↓Array.getElem?_setIfInBounds_ne, ne_eq, Nat.reduceEqDiff, not_false_eq_true, q25_3]; done) | simp [At, hs3, f9_3, f2_3, f3_3, f4_3, f5_3, f6_3, f8_3, f10_3, f16_3, f19_3, f20_3, f21_3, f22_3, f23_3, f24_3, f25_3, f26_3, f27_3, f28_3, f29_3, f30_3, f31_3, f32_3, f33_3, f34_3, f35_3, f36_3, f37_3, f38_3, f39_3, f40_3, f41_3, f42_3])
  have f25_4 := fun hh => getq q25_4 hh
  have q26_4 : At T4 26 (.int .i64 Y) := by subst hT; exact (by first | (simp only [At, ↓Array.getElem?_setIfInBounds_ne, ne_eq, Nat.reduceEqDiff, not_false_eq_true, q26_3]; done) | simp [At, hs3, f9_3, f2_3, f3_3, f4_3, f5_3, f6_3, f8_3, f10_3, f16_3, f19_3, f20_3, f21_3, f22_3, f23_3, f24_3, f25_3, f26_3, f27_3, f28_3, f29_3, f30_3, f31_3, f32_3, f33_3, f34_3, f35_3, f36_3, f37_3, f38_3, f39_3, f40_3, f41_3, f42_3])
  have f26_4 := fun hh => getq q26_4 hh
  have q27_4 : At T4 27 (.bool OK) := by subst hT; exact (by first | (simp only [At, ↓Array.getElem?_setIfInBounds_ne, ne_eq, Nat.reduceEqDiff, not_false_eq_true, q27_3]; done) | simp [At, hs3, f9_3, f2_3, f3_3, f4_3, f5_3, f6_3, f8_3, f10_3, f16_3, f19_3, f20_3, f21_3, f22_3, f23_3, f24_3, f25_3, f26_3, f27_3, f28_3, f29_3, f30_3, f31_3, f32_3, f33_3, f34_3, f35_3, f36_3, f37_3, f38_3, f39_3, f40_3, f41_3, f42_3])
  have f27_4 := fun hh => getq q27_4 hh
  have q28_4 : At T4 28 (.int .i64 X) := by subst hT; exact (by first | (simp only [At, ↓Array.getElem?_setIfInBounds_ne, ne_eq, Nat.reduceEqDiff, not_false_eq_true, q28_3]; done) | simp [At, hs3, f9_3, f2_3, f3_3, f4_3, f5_3, f6_3, f8_3, f10_3, f16_3, f19_3, f20_3, f21_3, f22_3, f23_3, f24_3, f25_3, f26_3, f27_3, f28_3, f29_3, f30_3, f31_3, f32_3, f33_3, f34_3, f35_3, f36_3, f37_3, f38_3, f39_3, f40_3, f41_3, f42_3])
  have f28_4 := fun hh => getq q28_4 hh
  have q29_4 : At T4 29 (.int .i64 Y) := by subst hT; exact (by first | (simp only [At, ↓Array.getElem?_setIfInBounds_ne, ne_eq, Nat.reduceEqDiff, not_false_eq_true, q29_3]; done) | simp [At, hs3, f9_3, f2_3, f3_3, f4_3, f5_3, f6_3, f8_3, f10_3, f16_3, f19_3, f20_3, f21_3, f22_3, f23_3, f24_3, f25_3, f26_3, f27_3, f28_3, f29_3, f30_3, f31_3, f32_3, f33_3, f34_3, f35_3, f36_3, f37_3, f38_3, f39_3, f40_3, f41_3, f42_3])
  have f29_4 := fun hh => getq q29_4 hh
  have q30_4 : At T4 30 (.bool OK) := by subst hT; exact (by first | (simp only [At, ↓Array.getElem?_setIfInBounds_ne, ne_eq, Nat.reduceEqDiff, not_false_eq_true, q30_3]; done) | simp [At, hs3, f9_3, f2_3, f3_3, f4_3, f5_3, f6_3, f8_3, f10_3, f16_3, f19_3, f20_3, f21_3, f22_3, f23_3, f24_3, f25_3, f26_3, f27_3, f28_3, f29_3, f30_3, f31_3, f32_3, f33_3, f34_3, f35_3, f36_3, f37_3, f38_3, f39_3, f40_3, f41_3, f42_3])
  have f30_4 := fun hh => getq q30_4 hh
  have q31_4 : At T4 31 (.int .i64 G) := by subst hT; exact (by first | (simp only [At, ↓Array.getElem?_setIfInBounds_ne, ne_eq, Nat.reduceEqDiff, not_false_eq_true, q31_3]; done) | simp [At, hs3, f9_3, f2_3, f3_3, f4_3, f5_3, f6_3, f8_3, f10_3, f16_3, f19_3, f20_3, f21_3, f22_3, f23_3, f24_3, f25_3, f26_3, f27_3, f28_3, f29_3, f30_3, f31_3, f32_3, f33_3, f34_3, f35_3, f36_3, f37_3, f38_3, f39_3, f40_3, f41_3, f42_3])
  have f31_4 := fun hh => getq q31_4 hh
  have q32_4 : At T4 32 (.int .i64 H) := by subst hT; exact (by first | (simp only [At, ↓Array.getElem?_setIfInBounds_ne, ne_eq, Nat.reduceEqDiff, not_false_eq_true, q32_3]; done) | simp [At, hs3, f9_3, f2_3, f3_3, f4_3, f5_3, f6_3, f8_3, f10_3, f16_3, f19_3, f20_3, f21_3, f22_3, f23_3, f24_3, f25_3, f26_3, f27_3, f28_3, f29_3, f30_3, f31_3, f32_3, f33_3, f34_3, f35_3, f36_3, f37_3, f38_3, f39_3, f40_3, f41_3, f42_3])
  have f32_4 := fun hh => getq q32_4 hh
  have q33_4 : At T4 33 (.bool OK) := by subst hT; exact (by first | (simp only [At, ↓Array.getElem?_setIfInBounds_ne, ne_eq, Nat.reduceEqDiff, not_false_eq_true, q33_3]; done) | simp [At, hs3, f9_3, f2_3, f3_3, f4_3, f5_3, f6_3, f8_3, f10_3, f16_3, f19_3, f20_3, f21_3, f22_3, f23_3, f24_3, f25_3, f26_3, f27_3, f28_3, f29_3, f30_3, f31_3, f32_3, f33_3, f34_3, f35_3, f36_3, f37_3, f38_3, f39_3, f40_3, f41_3, f42_3])
  have f33_4 := fun hh => getq q33_4 hh
  have q34_4 : At T4 34 (.int .i64 G) := by subst hT; exact (by first | (simp only [At, ↓Array.getElem?_setIfInBounds_ne, ne_eq, Nat.reduceEqDiff, not_false_eq_true, q34_3]; done) | simp [At, hs3, f9_3, f2_3, f3_3, f4_3, f5_3, f6_3, f8_3, f10_3, f16_3, f19_3, f20_3, f21_3, f22_3, f23_3, f24_3, f25_3, f26_3, f27_3, f28_3, f29_3, f30_3, f31_3, f32_3, f33_3, f34_3, f35_3, f36_3, f37_3, f38_3, f39_3, f40_3, f41_3, f42_3])
  have f34_4 := fun hh => getq q34_4 hh
  have q35_4 : At T4 35 (.int .i64 H) := by subst hT; exact (by first | (simp only [At, ↓Array.getElem?_setIfInBounds_ne, ne_eq, Nat.reduceEqDiff, not_false_eq_true, q35_3]; done) | simp [At, hs3, f9_3, f2_3, f3_3, f4_3, f5_3, f6_3, f8_3, f10_3, f16_3, f19_3, f20_3, f21_3, f22_3, f23_3, f24_3, f25_3, f26_3, f27_3, f28_3, f29_3, f30_3, f31_3, f32_3, f33_3, f34_3, f35_3, f36_3, f37_3, f38_3, f39_3, f40_3, f41_3, f42_3])
  have f35_4 := fun hh => getq q35_4 hh
  have q36_4 : At T4 36 (.bool OK) := by subst hT; exact (by first | (simp only [At, ↓Array.getElem?_setIfInBounds_ne, ne_eq, Nat.reduceEqDiff, not_false_eq_true, q36_3]; done) | simp [At, hs3, f9_3, f2_3, f3_3, f4_3, f5_3, f6_3, f8_3, f10_3, f16_3, f19_3, f20_3, f21_3, f22_3, f23_3, f24_3, f25_3, f26_3, f27_3, f28_3, f29_3, f30_3, f31_3, f32_3, f33_3, f34_3, f35_3, f36_3, f37_3, f38_3, f39_3, f40_3, f41_3, f42_3])
  have f36_4 := fun hh => getq q36_4 hh
  have q37_4 : At T4 37 (.int .i64 U) := by subst hT; exact (by first | (simp only [At, ↓Array.getElem?_setIfInBounds_ne, ne_eq, Nat.reduceEqDiff, not_false_eq_true, q37_3]; done) | simp [At, hs3, f9_3, f2_3, f3_3, f4_3, f5_3, f6_3, f8_3, f10_3, f16_3, f19_3, f20_3, f21_3, f22_3, f23_3, f24_3, f25_3, f26_3, f27_3, f28_3, f29_3, f30_3, f31_3, f32_3, f33_3, f34_3, f35_3, f36_3, f37_3, f38_3, f39_3, f40_3, f41_3, f42_3])
  have f37_4 := fun hh => getq q37_4 hh
  have q38_4 : At T4 38 (.int .i64 V) := by subst hT; exact (by first | (simp only [At, ↓Array.getElem?_setIfInBounds_ne, ne_eq, Nat.reduceEqDiff, not_false_eq_true, q38_3]; done) | simp [At, hs3, f9_3, f2_3, f3_3, f4_3, f5_3, f6_3, f8_3, f10_3, f16_3, f19_3, f20_3, f21_3, f22_3, f23_3, f24_3, f25_3, f26_3, f27_3, f28_3, f29_3, f30_3, f31_3, f32_3, f33_3, f34_3, f35_3, f36_3, f37_3, f38_3, f39_3, f40_3, f41_3, f42_3])
  have f38_4 := fun hh => getq q38_4 hh
  have q39_4 : At T4 39 (.bool OK) := by subst hT; exact (by first | (simp only [At, ↓Array.getElem?_setIfInBounds_ne, ne_eq, Nat.reduceEqDiff, not_false_eq_true, q39_3]; done) | simp [At, hs3, f9_3, f2_3, f3_3, f4_3, f5_3, f6_3, f8_3, f10_3, f16_3, f19_3, f20_3, f21_3, f22_3, f23_3, f24_3, f25_3, f26_3, f27_3, f28_3, f29_3, f30_3, f31_3, f32_3, f33_3, f34_3, f35_3, f36_3, f37_3, f38_3, f39_3, f40_3, f41_3, f42_3])
  have f39_4 := fun hh => getq q39_4 hh
  have q40_4 : At T4 40 (.int .i64 U) := by subst hT; exact (by first | (simp only [At, ↓Array.getElem?_setIfInBounds_ne, ne_eq, Nat.reduceEqDiff, not_false_eq_true, q40_3]; done) | simp [At, hs3, f9_3, f2_3, f3_3, f4_3, f5_3, f6_3, f8_3, f10_3, f16_3, f19_3, f20_3, f21_3, f22_3, f23_3, f24_3, f25_3, f26_3, f27_3, f28_3, f29_3, f30_3, f31_3, f32_3, f33_3, f34_3, f35_3, f36_3, f37_3, f38_3, f39_3, f40_3, f41_3, f42_3])
  have f40_4 := fun hh => getq q40_4 hh
  have q41_4 : At T4 41 (.int .i64 V) := by subst hT; exact (by first | (simp only [At, ↓Array.getElem?_setIfInBounds_ne, ne_eq, Nat.reduceEqDiff, not_false_eq_true, q41_3]; done) | simp [At, hs3, f9_3, f2_3, f3_3, f4_3, f5_3, f6_3, f8_3, f10_3, f16_3, f19_3, f20_3, f21_3, f22_3, f23_3, f24_3, f25_3, f26_3, f27_3, f28_3, f29_3, f30_3, f31_3, f32_3, f33_3, f34_3, f35_3, f36_3, f37_3, f38_3, f39_3, f40_3, f41_3, f42_3])
  have f41_4 := fun hh => getq q41_4 hh
  have q42_4 : At T4 42 (.bool OK) := by subst hT; exact (by first | (simp only [At, ↓Array.getElem?_setIfInBounds_ne, ne_eq, Nat.reduceEqDiff, not_false_eq_true, q42_3]; done) | simp [At, hs3, f9_3, f2_3, f3_3, f4_3, f5_3, f6_3, f8_3, f10_3, f16_3, f19_3, f20_3, f21_3, f22_3, f23_3, f24_3, f25_3, f26_3, f27_3, f28_3, f29_3, f30_3, f31_3, f32_3, f33_3, f34_3, f35_3, f36_3, f37_3, f38_3, f39_3, f40_3, f41_3, f42_3])
  have f42_4 := fun hh => getq q42_4 hh
  have q43_4 : At T4 43 (.int .i64 K) := by subst hT; exact (by first | (simp only [At, ↓Array.getElem?_setIfInBounds_ne, ne_eq, Nat.reduceEqDiff, not_false_eq_true]; done) | simp [At, hs3, f9_3, f2_3, f3_3, f4_3, f5_3, f6_3, f8_3, f10_3, f16_3, f19_3, f20_3, f21_3, f22_3, f23_3, f24_3, f25_3, f26_3, f27_3, f28_3, f29_3, f30_3, f31_3, f32_3, f33_3, f34_3, f35_3, f36_3, f37_3, f38_3, f39_3, f40_3, f41_3, f42_3])
  have f43_4 := fun hh => getq q43_4 hh
  have q44_4 : At T4 44 (.bool OK) := by subst hT; exact (by first | (simp only [At, ↓Array.getElem?_setIfInBounds_ne, ne_eq, Nat.reduceEqDiff, not_false_eq_true]; done) | simp [At, hs3, f9_3, f2_3, f3_3, f4_3, f5_3, f6_3, f8_3, f10_3, f16_3, f19_3, f20_3, f21_3, f22_3, f23_3, f24_3, f25_3, f26_3, f27_3, f28_3, f29_3, f30_3, f31_3, f32_3, f33_3, f34_3, f35_3, f36_3, f37_3, f38_3, f39_3, f40_3, f41_3, f42_3])
  have f44_4 := fun hh => getq q44_4 hh
  have q45_4 : At T4 45 (.int .i64 K) := by subst hT; exact (by first | (simp only [At, ↓Array.getElem?_setIfInBounds_ne, ne_eq, Nat.reduceEqDiff, not_false_eq_true]; done) | simp [At, hs3, f9_3, f2_3, f3_3, f4_3, f5_3, f6_3, f8_3, f10_3, f16_3, f19_3, f20_3, f21_3, f22_3, f23_3, f24_3, f25_3, f26_3, f27_3, f28_3, f29_3, f30_3, f31_3, f32_3, f33_3, f34_3, f35_3, f36_3, f37_3, f38_3, f39_3, f40_3, f41_3, f42_3])
  have f45_4 := fun hh => getq q45_4 hh
  have q46_4 : At T4 46 (.bool OK) := by subst hT; exact (by first | (simp only [At, ↓Array.getElem?_setIfInBounds_ne, ne_eq, Nat.reduceEqDiff, not_false_eq_true]; done) | simp [At, hs3, f9_3, f2_3, f3_3, f4_3, f5_3, f6_3, f8_3, f10_3, f16_3, f19_3, f20_3, f21_3, f22_3, f23_3, f24_3, f25_3, f26_3, f27_3, f28_3, f29_3, f30_3, f31_3, f32_3, f33_3, f34_3, f35_3, f36_3, f37_3, f38_3, f39_3, f40_3, f41_3, f42_3])
  have f46_4 := fun hh => getq q46_4 hh
  have q47_4 : At T4 47 (.string tx) := by subst hT; exact (by first | (simp only [At, ↓Array.getElem?_setIfInBounds_ne, ne_eq, Nat.reduceEqDiff, not_false_eq_true]; done) | simp [At, hs3, f9_3, f2_3, f3_3, f4_3, f5_3, f6_3, f8_3, f10_3, f16_3, f19_3, f20_3, f21_3, f22_3, f23_3, f24_3, f25_3, f26_3, f27_3, f28_3, f29_3, f30_3, f31_3, f32_3, f33_3, f34_3, f35_3, f36_3, f37_3, f38_3, f39_3, f40_3, f41_3, f42_3])
  have f47_4 := fun hh => getq q47_4 hh
  have q48_4 : At T4 48 (.bool OK) := by subst hT; exact (by first | (simp only [At, ↓Array.getElem?_setIfInBounds_ne, ne_eq, Nat.reduceEqDiff, not_false_eq_true]; done) | simp [At, hs3, f9_3, f2_3, f3_3, f4_3, f5_3, f6_3, f8_3, f10_3, f16_3, f19_3, f20_3, f21_3, f22_3, f23_3, f24_3, f25_3, f26_3, f27_3, f28_3, f29_3, f30_3, f31_3, f32_3, f33_3, f34_3, f35_3, f36_3, f37_3, f38_3, f39_3, f40_3, f41_3, f42_3])
  have f48_4 := fun hh => getq q48_4 hh
  have q49_4 : At T4 49 (.string tx) := by subst hT; exact (by first | (simp only [At, ↓Array.getElem?_setIfInBounds_ne, ne_eq, Nat.reduceEqDiff, not_false_eq_true]; done) | simp [At, hs3, f9_3, f2_3, f3_3, f4_3, f5_3, f6_3, f8_3, f10_3, f16_3, f19_3, f20_3, f21_3, f22_3, f23_3, f24_3, f25_3, f26_3, f27_3, f28_3, f29_3, f30_3, f31_3, f32_3, f33_3, f34_3, f35_3, f36_3, f37_3, f38_3, f39_3, f40_3, f41_3, f42_3])
  have f49_4 := fun hh => getq q49_4 hh
  have q50_4 : At T4 50 (.bool OK) := by subst hT; exact (by first | (simp only [At, ↓Array.getElem?_setIfInBounds_ne, ne_eq, Nat.reduceEqDiff, not_false_eq_true]; done) | simp [At, hs3, f9_3, f2_3, f3_3, f4_3, f5_3, f6_3, f8_3, f10_3, f16_3, f19_3, f20_3, f21_3, f22_3, f23_3, f24_3, f25_3, f26_3, f27_3, f28_3, f29_3, f30_3, f31_3, f32_3, f33_3, f34_3, f35_3, f36_3, f37_3, f38_3, f39_3, f40_3, f41_3, f42_3])
  have f50_4 := fun hh => getq q50_4 hh
  clear hT f42_3 f41_3 f40_3 f39_3 f38_3 f37_3 f36_3 f35_3 f34_3 f33_3 f32_3 f31_3 f30_3 f29_3 f28_3 f27_3 f26_3 f25_3 f24_3 f23_3 f22_3 f21_3 f20_3 f19_3 f16_3 f10_3 f8_3 f6_3 f5_3 f4_3 f3_3 f2_3 f9_3 hs3 q9_3 q2_3 q3_3 q4_3 q5_3 q6_3 q8_3 q10_3 q16_3 q19_3 q20_3 q21_3 q22_3 q23_3 q24_3 q25_3 q26_3 q27_3 q28_3 q29_3 q30_3 q31_3 q32_3 q33_3 q34_3 q35_3 q36_3 q37_3 q38_3 q39_3 q40_3 q41_3 q42_3
  go_wp2_with fail
  refine ((HM1 _).out).mono ?_
  rintro e w113 ⟨rfl, hb_⟩
  have HFw113 := Lib.hid (Lay.after (w := w) (B := [(w.heap.size, a, b, c), (w.heap.size + 1, ua, ub, uc), (w.heap.size + 1 + 1, za, zb, zc)]) (Lay.after (HFw112.out) (by repeat (first | exact Below.refl _ _ | refine bl_alloc ?_ _ | refine bl_drewN ?_ _ | refine bl_set ?_ (by first | omega | (simp; done) | (simp; omega)) _))) hb_)
  clear hb_ c00 c01 c02 z0 c10 c11 c12 z1 c20 c21 c22 z2
  obtain ⟨c00, c01, c02, z0, c10, c11, c12, z1, c20, c21, c22, z2, hbl⟩ := Lay.op (HFw113.out)
  clear hbl
  go_wp2_with fail
  refine ((HM2 _).out).mono ?_
  rintro e w114 ⟨rfl, hb_⟩
  have HFw114 := Lib.hid (Lay.after (w := w) (B := [(w113.heap.size, m1, m2, m3), (w.heap.size, a, b, c), (w.heap.size + 1, ua, ub, uc), (w.heap.size + 1 + 1, za, zb, zc)]) (Lay.c (g := w113.heap.size) (x0 := m1) (x1 := m2) (x2 := m3) (by simp [go_sem]) (by simp [go_sem]) (by simp [go_sem]) (by first | (simp; done) | (simp; omega)) (Lay.after (HFw113.out) (by repeat (first | exact Below.refl _ _ | refine bl_alloc ?_ _ | refine bl_drewN ?_ _ | refine bl_set ?_ (by first | omega | (simp; done) | (simp; omega)) _)))) hb_)
  clear hb_ c00 c01 c02 z0 c10 c11 c12 z1 c20 c21 c22 z2
  obtain ⟨c00, c01, c02, z0, c10, c11, c12, z1, c20, c21, c22, z2, c30, c31, c32, z3, hbl⟩ := Lay.op (HFw114.out)
  clear hbl
  go_upto_region 15 with fail
  refine reframe fun T5 hT => ?_
  have hs5 : T5.size = 702 := by subst hT; simp [hs4]
  have q9_5 : At T5 9 (.pointer (some ⟨w.heap.size, 0, none⟩)) := by subst hT; exact (by first | (simp only [At, ↓Array.getElem?_setIfInBounds_ne, ne_eq, Nat.reduceEqDiff, not_false_eq_true, q9_4]; done) | simp [At, hs4, f9_4, f2_4, f3_4, f4_4, f5_4, f6_4, f8_4, f10_4, f16_4, f19_4, f20_4, f21_4, f22_4, f23_4, f24_4, f25_4, f26_4, f27_4, f28_4, f29_4, f30_4, f31_4, f32_4, f33_4, f34_4, f35_4, f36_4, f37_4, f38_4, f39_4, f40_4, f41_4, f42_4, f43_4, f44_4, f45_4, f46_4, f47_4, f48_4, f49_4, f50_4])
  have f9_5 := fun hh => getq q9_5 hh
  have q2_5 : At T5 2 (.bool rt) := by subst hT; exact (by first | (simp only [At, ↓Array.getElem?_setIfInBounds_ne, ne_eq, Nat.reduceEqDiff, not_false_eq_true, q2_4]; done) | simp [At, hs4, f9_4, f2_4, f3_4, f4_4, f5_4, f6_4, f8_4, f10_4, f16_4, f19_4, f20_4, f21_4, f22_4, f23_4, f24_4, f25_4, f26_4, f27_4, f28_4, f29_4, f30_4, f31_4, f32_4, f33_4, f34_4, f35_4, f36_4, f37_4, f38_4, f39_4, f40_4, f41_4, f42_4, f43_4, f44_4, f45_4, f46_4, f47_4, f48_4, f49_4, f50_4])
  have f2_5 := fun hh => getq q2_5 hh
  have q3_5 : At T5 3 (.int .i64 p) := by subst hT; exact (by first | (simp only [At, ↓Array.getElem?_setIfInBounds_ne, ne_eq, Nat.reduceEqDiff, not_false_eq_true, q3_4]; done) | simp [At, hs4, f9_4, f2_4, f3_4, f4_4, f5_4, f6_4, f8_4, f10_4, f16_4, f19_4, f20_4, f21_4, f22_4, f23_4, f24_4, f25_4, f26_4, f27_4, f28_4, f29_4, f30_4, f31_4, f32_4, f33_4, f34_4, f35_4, f36_4, f37_4, f38_4, f39_4, f40_4, f41_4, f42_4, f43_4, f44_4, f45_4, f46_4, f47_4, f48_4, f49_4, f50_4])
  have f3_5 := fun hh => getq q3_5 hh
  have q4_5 : At T5 4 (.int .i64 h) := by subst hT; exact (by first | (simp only [At, ↓Array.getElem?_setIfInBounds_ne, ne_eq, Nat.reduceEqDiff, not_false_eq_true, q4_4]; done) | simp [At, hs4, f9_4, f2_4, f3_4, f4_4, f5_4, f6_4, f8_4, f10_4, f16_4, f19_4, f20_4, f21_4, f22_4, f23_4, f24_4, f25_4, f26_4, f27_4, f28_4, f29_4, f30_4, f31_4, f32_4, f33_4, f34_4, f35_4, f36_4, f37_4, f38_4, f39_4, f40_4, f41_4, f42_4, f43_4, f44_4, f45_4, f46_4, f47_4, f48_4, f49_4, f50_4])
  have f4_5 := fun hh => getq q4_5 hh
  have q5_5 : At T5 5 (.int .i64 n) := by subst hT; exact (by first | (simp only [At, ↓Array.getElem?_setIfInBounds_ne, ne_eq, Nat.reduceEqDiff, not_false_eq_true, q5_4]; done) | simp [At, hs4, f9_4, f2_4, f3_4, f4_4, f5_4, f6_4, f8_4, f10_4, f16_4, f19_4, f20_4, f21_4, f22_4, f23_4, f24_4, f25_4, f26_4, f27_4, f28_4, f29_4, f30_4, f31_4, f32_4, f33_4, f34_4, f35_4, f36_4, f37_4, f38_4, f39_4, f40_4, f41_4, f42_4, f43_4, f44_4, f45_4, f46_4, f47_4, f48_4, f49_4, f50_4])
  have f5_5 := fun hh => getq q5_5 hh
  have q6_5 : At T5 6 (.int .i64 k) := by subst hT; exact (by first | (simp only [At, ↓Array.getElem?_setIfInBounds_ne, ne_eq, Nat.reduceEqDiff, not_false_eq_true, q6_4]; done) | simp [At, hs4, f9_4, f2_4, f3_4, f4_4, f5_4, f6_4, f8_4, f10_4, f16_4, f19_4, f20_4, f21_4, f22_4, f23_4, f24_4, f25_4, f26_4, f27_4, f28_4, f29_4, f30_4, f31_4, f32_4, f33_4, f34_4, f35_4, f36_4, f37_4, f38_4, f39_4, f40_4, f41_4, f42_4, f43_4, f44_4, f45_4, f46_4, f47_4, f48_4, f49_4, f50_4])
  have f6_5 := fun hh => getq q6_5 hh
  have q8_5 : At T5 8 (.int .i64 v) := by subst hT; exact (by first | (simp only [At, ↓Array.getElem?_setIfInBounds_ne, ne_eq, Nat.reduceEqDiff, not_false_eq_true, q8_4]; done) | simp [At, hs4, f9_4, f2_4, f3_4, f4_4, f5_4, f6_4, f8_4, f10_4, f16_4, f19_4, f20_4, f21_4, f22_4, f23_4, f24_4, f25_4, f26_4, f27_4, f28_4, f29_4, f30_4, f31_4, f32_4, f33_4, f34_4, f35_4, f36_4, f37_4, f38_4, f39_4, f40_4, f41_4, f42_4, f43_4, f44_4, f45_4, f46_4, f47_4, f48_4, f49_4, f50_4])
  have f8_5 := fun hh => getq q8_5 hh
  have q10_5 : At T5 10 (.pointer (some ⟨w.heap.size + 1, 0, none⟩)) := by subst hT; exact (by first | (simp only [At, ↓Array.getElem?_setIfInBounds_ne, ne_eq, Nat.reduceEqDiff, not_false_eq_true, q10_4]; done) | simp [At, hs4, f9_4, f2_4, f3_4, f4_4, f5_4, f6_4, f8_4, f10_4, f16_4, f19_4, f20_4, f21_4, f22_4, f23_4, f24_4, f25_4, f26_4, f27_4, f28_4, f29_4, f30_4, f31_4, f32_4, f33_4, f34_4, f35_4, f36_4, f37_4, f38_4, f39_4, f40_4, f41_4, f42_4, f43_4, f44_4, f45_4, f46_4, f47_4, f48_4, f49_4, f50_4])
  have f10_5 := fun hh => getq q10_5 hh
  have q16_5 : At T5 16 (.pointer (some ⟨w.heap.size + 1 + 1, 0, none⟩)) := by subst hT; exact (by first | (simp only [At, ↓Array.getElem?_setIfInBounds_ne, ne_eq, Nat.reduceEqDiff, not_false_eq_true, q16_4]; done) | simp [At, hs4, f9_4, f2_4, f3_4, f4_4, f5_4, f6_4, f8_4, f10_4, f16_4, f19_4, f20_4, f21_4, f22_4, f23_4, f24_4, f25_4, f26_4, f27_4, f28_4, f29_4, f30_4, f31_4, f32_4, f33_4, f34_4, f35_4, f36_4, f37_4, f38_4, f39_4, f40_4, f41_4, f42_4, f43_4, f44_4, f45_4, f46_4, f47_4, f48_4, f49_4, f50_4])
  have f16_5 := fun hh => getq q16_5 hh
  have q19_5 : At T5 19 (.int .i64 N) := by subst hT; exact (by first | (simp only [At, ↓Array.getElem?_setIfInBounds_ne, ne_eq, Nat.reduceEqDiff, not_false_eq_true, q19_4]; done) | simp [At, hs4, f9_4, f2_4, f3_4, f4_4, f5_4, f6_4, f8_4, f10_4, f16_4, f19_4, f20_4, f21_4, f22_4, f23_4, f24_4, f25_4, f26_4, f27_4, f28_4, f29_4, f30_4, f31_4, f32_4, f33_4, f34_4, f35_4, f36_4, f37_4, f38_4, f39_4, f40_4, f41_4, f42_4, f43_4, f44_4, f45_4, f46_4, f47_4, f48_4, f49_4, f50_4])
  have f19_5 := fun hh => getq q19_5 hh
  have q20_5 : At T5 20 (.int .i64 D) := by subst hT; exact (by first | (simp only [At, ↓Array.getElem?_setIfInBounds_ne, ne_eq, Nat.reduceEqDiff, not_false_eq_true, q20_4]; done) | simp [At, hs4, f9_4, f2_4, f3_4, f4_4, f5_4, f6_4, f8_4, f10_4, f16_4, f19_4, f20_4, f21_4, f22_4, f23_4, f24_4, f25_4, f26_4, f27_4, f28_4, f29_4, f30_4, f31_4, f32_4, f33_4, f34_4, f35_4, f36_4, f37_4, f38_4, f39_4, f40_4, f41_4, f42_4, f43_4, f44_4, f45_4, f46_4, f47_4, f48_4, f49_4, f50_4])
  have f20_5 := fun hh => getq q20_5 hh
  have q21_5 : At T5 21 (.bool OK) := by subst hT; exact (by first | (simp only [At, ↓Array.getElem?_setIfInBounds_ne, ne_eq, Nat.reduceEqDiff, not_false_eq_true, q21_4]; done) | simp [At, hs4, f9_4, f2_4, f3_4, f4_4, f5_4, f6_4, f8_4, f10_4, f16_4, f19_4, f20_4, f21_4, f22_4, f23_4, f24_4, f25_4, f26_4, f27_4, f28_4, f29_4, f30_4, f31_4, f32_4, f33_4, f34_4, f35_4, f36_4, f37_4, f38_4, f39_4, f40_4, f41_4, f42_4, f43_4, f44_4, f45_4, f46_4, f47_4, f48_4, f49_4, f50_4])
  have f21_5 := fun hh => getq q21_5 hh
  have q22_5 : At T5 22 (.int .i64 N) := by subst hT; exact (by first | (simp only [At, ↓Array.getElem?_setIfInBounds_ne, ne_eq, Nat.reduceEqDiff, not_false_eq_true, q22_4]; done) | simp [At, hs4, f9_4, f2_4, f3_4, f4_4, f5_4, f6_4, f8_4, f10_4, f16_4, f19_4, f20_4, f21_4, f22_4, f23_4, f24_4, f25_4, f26_4, f27_4, f28_4, f29_4, f30_4, f31_4, f32_4, f33_4, f34_4, f35_4, f36_4, f37_4, f38_4, f39_4, f40_4, f41_4, f42_4, f43_4, f44_4, f45_4, f46_4, f47_4, f48_4, f49_4, f50_4])
  have f22_5 := fun hh => getq q22_5 hh
  have q23_5 : At T5 23 (.int .i64 D) := by subst hT; exact (by first | (simp only [At, ↓Array.getElem?_setIfInBounds_ne, ne_eq, Nat.reduceEqDiff, not_false_eq_true, q23_4]; done) | simp [At, hs4, f9_4, f2_4, f3_4, f4_4, f5_4, f6_4, f8_4, f10_4, f16_4, f19_4, f20_4, f21_4, f22_4, f23_4, f24_4, f25_4, f26_4, f27_4, f28_4, f29_4, f30_4, f31_4, f32_4, f33_4, f34_4, f35_4, f36_4, f37_4, f38_4, f39_4, f40_4, f41_4, f42_4, f43_4, f44_4, f45_4, f46_4, f47_4, f48_4, f49_4, f50_4])
  have f23_5 := fun hh => getq q23_5 hh
  have q24_5 : At T5 24 (.bool OK) := by subst hT; exact (by first | (simp only [At, ↓Array.getElem?_setIfInBounds_ne, ne_eq, Nat.reduceEqDiff, not_false_eq_true, q24_4]; done) | simp [At, hs4, f9_4, f2_4, f3_4, f4_4, f5_4, f6_4, f8_4, f10_4, f16_4, f19_4, f20_4, f21_4, f22_4, f23_4, f24_4, f25_4, f26_4, f27_4, f28_4, f29_4, f30_4, f31_4, f32_4, f33_4, f34_4, f35_4, f36_4, f37_4, f38_4, f39_4, f40_4, f41_4, f42_4, f43_4, f44_4, f45_4, f46_4, f47_4, f48_4, f49_4, f50_4])
  have f24_5 := fun hh => getq q24_5 hh
  have q25_5 : At T5 25 (.int .i64 X) := by subst hT; exact (by first | (simp only [At, ↓Array.getElem?_setIfInBounds_ne, ne_eq, Nat.reduceEqDiff, not_false_eq_true, q25_4]; done) | simp [At, hs4, f9_4, f2_4, f3_4, f4_4, f5_4, f6_4, f8_4, f10_4, f16_4, f19_4, f20_4, f21_4, f22_4, f23_4, f24_4, f25_4, f26_4, f27_4, f28_4, f29_4, f30_4, f31_4, f32_4, f33_4, f34_4, f35_4, f36_4, f37_4, f38_4, f39_4, f40_4, f41_4, f42_4, f43_4, f44_4, f45_4, f46_4, f47_4, f48_4, f49_4, f50_4])
  have f25_5 := fun hh => getq q25_5 hh
  have q26_5 : At T5 26 (.int .i64 Y) := by subst hT; exact (by first | (simp only [At, ↓Array.getElem?_setIfInBounds_ne, ne_eq, Nat.reduceEqDiff, not_false_eq_true, q26_4]; done) | simp [At, hs4, f9_4, f2_4, f3_4, f4_4, f5_4, f6_4, f8_4, f10_4, f16_4, f19_4, f20_4, f21_4, f22_4, f23_4, f24_4, f25_4, f26_4, f27_4, f28_4, f29_4, f30_4, f31_4, f32_4, f33_4, f34_4, f35_4, f36_4, f37_4, f38_4, f39_4, f40_4, f41_4, f42_4, f43_4, f44_4, f45_4, f46_4, f47_4, f48_4, f49_4, f50_4])
  have f26_5 := fun hh => getq q26_5 hh
  have q27_5 : At T5 27 (.bool OK) := by subst hT; exact (by first | (simp only [At, ↓Array.getElem?_setIfInBounds_ne, ne_eq, Nat.reduceEqDiff, not_false_eq_true, q27_4]; done) | simp [At, hs4, f9_4, f2_4, f3_4, f4_4, f5_4, f6_4, f8_4, f10_4, f16_4, f19_4, f20_4, f21_4, f22_4, f23_4, f24_4, f25_4, f26_4, f27_4, f28_4, f29_4, f30_4, f31_4, f32_4, f33_4, f34_4, f35_4, f36_4, f37_4, f38_4, f39_4, f40_4, f41_4, f42_4, f43_4, f44_4, f45_4, f46_4, f47_4, f48_4, f49_4, f50_4])
  have f27_5 := fun hh => getq q27_5 hh
  have q28_5 : At T5 28 (.int .i64 X) := by subst hT; exact (by first | (simp only [At, ↓Array.getElem?_setIfInBounds_ne, ne_eq, Nat.reduceEqDiff, not_false_eq_true, q28_4]; done) | simp [At, hs4, f9_4, f2_4, f3_4, f4_4, f5_4, f6_4, f8_4, f10_4, f16_4, f19_4, f20_4, f21_4, f22_4, f23_4, f24_4, f25_4, f26_4, f27_4, f28_4, f29_4, f30_4, f31_4, f32_4, f33_4, f34_4, f35_4, f36_4, f37_4, f38_4, f39_4, f40_4, f41_4, f42_4, f43_4, f44_4, f45_4, f46_4, f47_4, f48_4, f49_4, f50_4])
  have f28_5 := fun hh => getq q28_5 hh
  have q29_5 : At T5 29 (.int .i64 Y) := by subst hT; exact (by first | (simp only [At, ↓Array.getElem?_setIfInBounds_ne, ne_eq, Nat.reduceEqDiff, not_false_eq_true, q29_4]; done) | simp [At, hs4, f9_4, f2_4, f3_4, f4_4, f5_4, f6_4, f8_4, f10_4, f16_4, f19_4, f20_4, f21_4, f22_4, f23_4, f24_4, f25_4, f26_4, f27_4, f28_4, f29_4, f30_4, f31_4, f32_4, f33_4, f34_4, f35_4, f36_4, f37_4, f38_4, f39_4, f40_4, f41_4, f42_4, f43_4, f44_4, f45_4, f46_4, f47_4, f48_4, f49_4, f50_4])
  have f29_5 := fun hh => getq q29_5 hh
  have q30_5 : At T5 30 (.bool OK) := by subst hT; exact (by first | (simp only [At, ↓Array.getElem?_setIfInBounds_ne, ne_eq, Nat.reduceEqDiff, not_false_eq_true, q30_4]; done) | simp [At, hs4, f9_4, f2_4, f3_4, f4_4, f5_4, f6_4, f8_4, f10_4, f16_4, f19_4, f20_4, f21_4, f22_4, f23_4, f24_4, f25_4, f26_4, f27_4, f28_4, f29_4, f30_4, f31_4, f32_4, f33_4, f34_4, f35_4, f36_4, f37_4, f38_4, f39_4, f40_4, f41_4, f42_4, f43_4, f44_4, f45_4, f46_4, f47_4, f48_4, f49_4, f50_4])
  have f30_5 := fun hh => getq q30_5 hh
  have q31_5 : At T5 31 (.int .i64 G) := by subst hT; exact (by first | (simp only [At, ↓Array.getElem?_setIfInBounds_ne, ne_eq, Nat.reduceEqDiff, not_false_eq_true, q31_4]; done) | simp [At, hs4, f9_4, f2_4, f3_4, f4_4, f5_4, f6_4, f8_4, f10_4, f16_4, f19_4, f20_4, f21_4, f22_4, f23_4, f24_4, f25_4, f26_4, f27_4, f28_4, f29_4, f30_4, f31_4, f32_4, f33_4, f34_4, f35_4, f36_4, f37_4, f38_4, f39_4, f40_4, f41_4, f42_4, f43_4, f44_4, f45_4, f46_4, f47_4, f48_4, f49_4, f50_4])
  have f31_5 := fun hh => getq q31_5 hh
  have q32_5 : At T5 32 (.int .i64 H) := by subst hT; exact (by first | (simp only [At, ↓Array.getElem?_setIfInBounds_ne, ne_eq, Nat.reduceEqDiff, not_false_eq_true, q32_4]; done) | simp [At, hs4, f9_4, f2_4, f3_4, f4_4, f5_4, f6_4, f8_4, f10_4, f16_4, f19_4, f20_4, f21_4, f22_4, f23_4, f24_4, f25_4, f26_4, f27_4, f28_4, f29_4, f30_4, f31_4, f32_4, f33_4, f34_4, f35_4, f36_4, f37_4, f38_4, f39_4, f40_4, f41_4, f42_4, f43_4, f44_4, f45_4, f46_4, f47_4, f48_4, f49_4, f50_4])
  have f32_5 := fun hh => getq q32_5 hh
  have q33_5 : At T5 33 (.bool OK) := by subst hT; exact (by first | (simp only [At, ↓Array.getElem?_setIfInBounds_ne, ne_eq, Nat.reduceEqDiff, not_false_eq_true, q33_4]; done) | simp [At, hs4, f9_4, f2_4, f3_4, f4_4, f5_4, f6_4, f8_4, f10_4, f16_4, f19_4, f20_4, f21_4, f22_4, f23_4, f24_4, f25_4, f26_4, f27_4, f28_4, f29_4, f30_4, f31_4, f32_4, f33_4, f34_4, f35_4, f36_4, f37_4, f38_4, f39_4, f40_4, f41_4, f42_4, f43_4, f44_4, f45_4, f46_4, f47_4, f48_4, f49_4, f50_4])
  have f33_5 := fun hh => getq q33_5 hh
  have q34_5 : At T5 34 (.int .i64 G) := by subst hT; exact (by first | (simp only [At, ↓Array.getElem?_setIfInBounds_ne, ne_eq, Nat.reduceEqDiff, not_false_eq_true, q34_4]; done) | simp [At, hs4, f9_4, f2_4, f3_4, f4_4, f5_4, f6_4, f8_4, f10_4, f16_4, f19_4, f20_4, f21_4, f22_4, f23_4, f24_4, f25_4, f26_4, f27_4, f28_4, f29_4, f30_4, f31_4, f32_4, f33_4, f34_4, f35_4, f36_4, f37_4, f38_4, f39_4, f40_4, f41_4, f42_4, f43_4, f44_4, f45_4, f46_4, f47_4, f48_4, f49_4, f50_4])
  have f34_5 := fun hh => getq q34_5 hh
  have q35_5 : At T5 35 (.int .i64 H) := by subst hT; exact (by first | (simp only [At, ↓Array.getElem?_setIfInBounds_ne, ne_eq, Nat.reduceEqDiff, not_false_eq_true, q35_4]; done) | simp [At, hs4, f9_4, f2_4, f3_4, f4_4, f5_4, f6_4, f8_4, f10_4, f16_4, f19_4, f20_4, f21_4, f22_4, f23_4, f24_4, f25_4, f26_4, f27_4, f28_4, f29_4, f30_4, f31_4, f32_4, f33_4, f34_4, f35_4, f36_4, f37_4, f38_4, f39_4, f40_4, f41_4, f42_4, f43_4, f44_4, f45_4, f46_4, f47_4, f48_4, f49_4, f50_4])
  have f35_5 := fun hh => getq q35_5 hh
  have q36_5 : At T5 36 (.bool OK) := by subst hT; exact (by first | (simp only [At, ↓Array.getElem?_setIfInBounds_ne, ne_eq, Nat.reduceEqDiff, not_false_eq_true, q36_4]; done) | simp [At, hs4, f9_4, f2_4, f3_4, f4_4, f5_4, f6_4, f8_4, f10_4, f16_4, f19_4, f20_4, f21_4, f22_4, f23_4, f24_4, f25_4, f26_4, f27_4, f28_4, f29_4, f30_4, f31_4, f32_4, f33_4, f34_4, f35_4, f36_4, f37_4, f38_4, f39_4, f40_4, f41_4, f42_4, f43_4, f44_4, f45_4, f46_4, f47_4, f48_4, f49_4, f50_4])
  have f36_5 := fun hh => getq q36_5 hh
  have q37_5 : At T5 37 (.int .i64 U) := by subst hT; exact (by first | (simp only [At, ↓Array.getElem?_setIfInBounds_ne, ne_eq, Nat.reduceEqDiff, not_false_eq_true, q37_4]; done) | simp [At, hs4, f9_4, f2_4, f3_4, f4_4, f5_4, f6_4, f8_4, f10_4, f16_4, f19_4, f20_4, f21_4, f22_4, f23_4, f24_4, f25_4, f26_4, f27_4, f28_4, f29_4, f30_4, f31_4, f32_4, f33_4, f34_4, f35_4, f36_4, f37_4, f38_4, f39_4, f40_4, f41_4, f42_4, f43_4, f44_4, f45_4, f46_4, f47_4, f48_4, f49_4, f50_4])
  have f37_5 := fun hh => getq q37_5 hh
  have q38_5 : At T5 38 (.int .i64 V) := by subst hT; exact (by first | (simp only [At, ↓Array.getElem?_setIfInBounds_ne, ne_eq, Nat.reduceEqDiff, not_false_eq_true, q38_4]; done) | simp [At, hs4, f9_4, f2_4, f3_4, f4_4, f5_4, f6_4, f8_4, f10_4, f16_4, f19_4, f20_4, f21_4, f22_4, f23_4, f24_4, f25_4, f26_4, f27_4, f28_4, f29_4, f30_4, f31_4, f32_4, f33_4, f34_4, f35_4, f36_4, f37_4, f38_4, f39_4, f40_4, f41_4, f42_4, f43_4, f44_4, f45_4, f46_4, f47_4, f48_4, f49_4, f50_4])
  have f38_5 := fun hh => getq q38_5 hh
  have q39_5 : At T5 39 (.bool OK) := by subst hT; exact (by first | (simp only [At, ↓Array.getElem?_setIfInBounds_ne, ne_eq, Nat.reduceEqDiff, not_false_eq_true, q39_4]; done) | simp [At, hs4, f9_4, f2_4, f3_4, f4_4, f5_4, f6_4, f8_4, f10_4, f16_4, f19_4, f20_4, f21_4, f22_4, f23_4, f24_4, f25_4, f26_4, f27_4, f28_4, f29_4, f30_4, f31_4, f32_4, f33_4, f34_4, f35_4, f36_4, f37_4, f38_4, f39_4, f40_4, f41_4, f42_4, f43_4, f44_4, f45_4, f46_4, f47_4, f48_4, f49_4, f50_4])
  have f39_5 := fun hh => getq q39_5 hh
  have q40_5 : At T5 40 (.int .i64 U) := by subst hT; exact (by first | (simp only [At, ↓Array.getElem?_setIfInBounds_ne, ne_eq, Nat.reduceEqDiff, not_false_eq_true, q40_4]; done) | simp [At, hs4, f9_4, f2_4, f3_4, f4_4, f5_4, f6_4, f8_4, f10_4, f16_4, f19_4, f20_4, f21_4, f22_4, f23_4, f24_4, f25_4, f26_4, f27_4, f28_4, f29_4, f30_4, f31_4, f32_4, f33_4, f34_4, f35_4, f36_4, f37_4, f38_4, f39_4, f40_4, f41_4, f42_4, f43_4, f44_4, f45_4, f46_4, f47_4, f48_4, f49_4, f50_4])
  have f40_5 := fun hh => getq q40_5 hh
  have q41_5 : At T5 41 (.int .i64 V) := by subst hT; exact (by first | (simp only [At, ↓Array.getElem?_setIfInBounds_ne, ne_eq, Nat.reduceEqDiff, not_false_eq_true, q41_4]; done) | simp [At, hs4, f9_4, f2_4, f3_4, f4_4, f5_4, f6_4, f8_4, f10_4, f16_4, f19_4, f20_4, f21_4, f22_4, f23_4, f24_4, f25_4, f26_4, f27_4, f28_4, f29_4, f30_4, f31_4, f32_4, f33_4, f34_4, f35_4, f36_4, f37_4, f38_4, f39_4, f40_4, f41_4, f42_4, f43_4, f44_4, f45_4, f46_4, f47_4, f48_4, f49_4, f50_4])
  have f41_5 := fun hh => getq q41_5 hh
  have q42_5 : At T5 42 (.bool OK) := by subst hT; exact (by first | (simp only [At, ↓Array.getElem?_setIfInBounds_ne, ne_eq, Nat.reduceEqDiff, not_false_eq_true, q42_4]; done) | simp [At, hs4, f9_4, f2_4, f3_4, f4_4, f5_4, f6_4, f8_4, f10_4, f16_4, f19_4, f20_4, f21_4, f22_4, f23_4, f24_4, f25_4, f26_4, f27_4, f28_4, f29_4, f30_4, f31_4, f32_4, f33_4, f34_4, f35_4, f36_4, f37_4, f38_4, f39_4, f40_4, f41_4, f42_4, f43_4, f44_4, f45_4, f46_4, f47_4, f48_4, f49_4, f50_4])
  have f42_5 := fun hh => getq q42_5 hh
  have q43_5 : At T5 43 (.int .i64 K) := by subst hT; exact (by first | (simp only [At, ↓Array.getElem?_setIfInBounds_ne, ne_eq, Nat.reduceEqDiff, not_false_eq_true, q43_4]; done) | simp [At, hs4, f9_4, f2_4, f3_4, f4_4, f5_4, f6_4, f8_4, f10_4, f16_4, f19_4, f20_4, f21_4, f22_4, f23_4, f24_4, f25_4, f26_4, f27_4, f28_4, f29_4, f30_4, f31_4, f32_4, f33_4, f34_4, f35_4, f36_4, f37_4, f38_4, f39_4, f40_4, f41_4, f42_4, f43_4, f44_4, f45_4, f46_4, f47_4, f48_4, f49_4, f50_4])
  have f43_5 := fun hh => getq q43_5 hh
  have q44_5 : At T5 44 (.bool OK) := by subst hT; exact (by first | (simp only [At, ↓Array.getElem?_setIfInBounds_ne, ne_eq, Nat.reduceEqDiff, not_false_eq_true, q44_4]; done) | simp [At, hs4, f9_4, f2_4, f3_4, f4_4, f5_4, f6_4, f8_4, f10_4, f16_4, f19_4, f20_4, f21_4, f22_4, f23_4, f24_4, f25_4, f26_4, f27_4, f28_4, f29_4, f30_4, f31_4, f32_4, f33_4, f34_4, f35_4, f36_4, f37_4, f38_4, f39_4, f40_4, f41_4, f42_4, f43_4, f44_4, f45_4, f46_4, f47_4, f48_4, f49_4, f50_4])
  have f44_5 := fun hh => getq q44_5 hh
  have q45_5 : At T5 45 (.int .i64 K) := by subst hT; exact (by first | (simp only [At, ↓Array.getElem?_setIfInBounds_ne, ne_eq, Nat.reduceEqDiff, not_false_eq_true, q45_4]; done) | simp [At, hs4, f9_4, f2_4, f3_4, f4_4, f5_4, f6_4, f8_4, f10_4, f16_4, f19_4, f20_4, f21_4, f22_4, f23_4, f24_4, f25_4, f26_4, f27_4, f28_4, f29_4, f30_4, f31_4, f32_4, f33_4, f34_4, f35_4, f36_4, f37_4, f38_4, f39_4, f40_4, f41_4, f42_4, f43_4, f44_4, f45_4, f46_4, f47_4, f48_4, f49_4, f50_4])
  have f45_5 := fun hh => getq q45_5 hh
  have q46_5 : At T5 46 (.bool OK) := by subst hT; exact (by first | (simp only [At, ↓Array.getElem?_setIfInBounds_ne, ne_eq, Nat.reduceEqDiff, not_false_eq_true, q46_4]; done) | simp [At, hs4, f9_4, f2_4, f3_4, f4_4, f5_4, f6_4, f8_4, f10_4, f16_4, f19_4, f20_4, f21_4, f22_4, f23_4, f24_4, f25_4, f26_4, f27_4, f28_4, f29_4, f30_4, f31_4, f32_4, f33_4, f34_4, f35_4, f36_4, f37_4, f38_4, f39_4, f40_4, f41_4, f42_4, f43_4, f44_4, f45_4, f46_4, f47_4, f48_4, f49_4, f50_4])
  have f46_5 := fun hh => getq q46_5 hh
  have q47_5 : At T5 47 (.string tx) := by subst hT; exact (by first | (simp only [At, ↓Array.getElem?_setIfInBounds_ne, ne_eq, Nat.reduceEqDiff, not_false_eq_true, q47_4]; done) | simp [At, hs4, f9_4, f2_4, f3_4, f4_4, f5_4, f6_4, f8_4, f10_4, f16_4, f19_4, f20_4, f21_4, f22_4, f23_4, f24_4, f25_4, f26_4, f27_4, f28_4, f29_4, f30_4, f31_4, f32_4, f33_4, f34_4, f35_4, f36_4, f37_4, f38_4, f39_4, f40_4, f41_4, f42_4, f43_4, f44_4, f45_4, f46_4, f47_4, f48_4, f49_4, f50_4])
  have f47_5 := fun hh => getq q47_5 hh
  have q48_5 : At T5 48 (.bool OK) := by subst hT; exact (by first | (simp only [At, ↓Array.getElem?_setIfInBounds_ne, ne_eq, Nat.reduceEqDiff, not_false_eq_true, q48_4]; done) | simp [At, hs4, f9_4, f2_4, f3_4, f4_4, f5_4, f6_4, f8_4, f10_4, f16_4, f19_4, f20_4, f21_4, f22_4, f23_4, f24_4, f25_4, f26_4, f27_4, f28_4, f29_4, f30_4, f31_4, f32_4, f33_4, f34_4, f35_4, f36_4, f37_4, f38_4, f39_4, f40_4, f41_4, f42_4, f43_4, f44_4, f45_4, f46_4, f47_4, f48_4, f49_4, f50_4])
  have f48_5 := fun hh => getq q48_5 hh
  have q49_5 : At T5 49 (.string tx) := by subst hT; exact (by first | (simp only [At, ↓Array.getElem?_setIfInBounds_ne, ne_eq, Nat.reduceEqDiff, not_false_eq_true, q49_4]; done) | simp [At, hs4, f9_4, f2_4, f3_4, f4_4, f5_4, f6_4, f8_4, f10_4, f16_4, f19_4, f20_4, f21_4, f22_4, f23_4, f24_4, f25_4, f26_4, f27_4, f28_4, f29_4, f30_4, f31_4, f32_4, f33_4, f34_4, f35_4, f36_4, f37_4, f38_4, f39_4, f40_4, f41_4, f42_4, f43_4, f44_4, f45_4, f46_4, f47_4, f48_4, f49_4, f50_4])
  have f49_5 := fun hh => getq q49_5 hh
  have q50_5 : At T5 50 (.bool OK) := by subst hT; exact (by first | (simp only [At, ↓Array.getElem?_setIfInBounds_ne, ne_eq, Nat.reduceEqDiff, not_false_eq_true, q50_4]; done) | simp [At, hs4, f9_4, f2_4, f3_4, f4_4, f5_4, f6_4, f8_4, f10_4, f16_4, f19_4, f20_4, f21_4, f22_4, f23_4, f24_4, f25_4, f26_4, f27_4, f28_4, f29_4, f30_4, f31_4, f32_4, f33_4, f34_4, f35_4, f36_4, f37_4, f38_4, f39_4, f40_4, f41_4, f42_4, f43_4, f44_4, f45_4, f46_4, f47_4, f48_4, f49_4, f50_4])
  have f50_5 := fun hh => getq q50_5 hh
  have q51_5 : At T5 51 (.pointer (some ⟨w113.heap.size, 0, none⟩)) := by subst hT; exact (by first | (simp only [At, ↓Array.getElem?_setIfInBounds_ne, ne_eq, Nat.reduceEqDiff, not_false_eq_true]; done) | simp [At, hs4, f9_4, f2_4, f3_4, f4_4, f5_4, f6_4, f8_4, f10_4, f16_4, f19_4, f20_4, f21_4, f22_4, f23_4, f24_4, f25_4, f26_4, f27_4, f28_4, f29_4, f30_4, f31_4, f32_4, f33_4, f34_4, f35_4, f36_4, f37_4, f38_4, f39_4, f40_4, f41_4, f42_4, f43_4, f44_4, f45_4, f46_4, f47_4, f48_4, f49_4, f50_4])
  have f51_5 := fun hh => getq q51_5 hh
  have q52_5 : At T5 52 (.bool OK) := by subst hT; exact (by first | (simp only [At, ↓Array.getElem?_setIfInBounds_ne, ne_eq, Nat.reduceEqDiff, not_false_eq_true]; done) | simp [At, hs4, f9_4, f2_4, f3_4, f4_4, f5_4, f6_4, f8_4, f10_4, f16_4, f19_4, f20_4, f21_4, f22_4, f23_4, f24_4, f25_4, f26_4, f27_4, f28_4, f29_4, f30_4, f31_4, f32_4, f33_4, f34_4, f35_4, f36_4, f37_4, f38_4, f39_4, f40_4, f41_4, f42_4, f43_4, f44_4, f45_4, f46_4, f47_4, f48_4, f49_4, f50_4])
  have f52_5 := fun hh => getq q52_5 hh
  have q53_5 : At T5 53 (.pointer (some ⟨w114.heap.size, 0, none⟩)) := by subst hT; exact (by first | (simp only [At, ↓Array.getElem?_setIfInBounds_ne, ne_eq, Nat.reduceEqDiff, not_false_eq_true]; done) | simp [At, hs4, f9_4, f2_4, f3_4, f4_4, f5_4, f6_4, f8_4, f10_4, f16_4, f19_4, f20_4, f21_4, f22_4, f23_4, f24_4, f25_4, f26_4, f27_4, f28_4, f29_4, f30_4, f31_4, f32_4, f33_4, f34_4, f35_4, f36_4, f37_4, f38_4, f39_4, f40_4, f41_4, f42_4, f43_4, f44_4, f45_4, f46_4, f47_4, f48_4, f49_4, f50_4])
  have f53_5 := fun hh => getq q53_5 hh
  have q54_5 : At T5 54 (.bool OK) := by subst hT; exact (by first | (simp only [At, ↓Array.getElem?_setIfInBounds_ne, ne_eq, Nat.reduceEqDiff, not_false_eq_true]; done) | simp [At, hs4, f9_4, f2_4, f3_4, f4_4, f5_4, f6_4, f8_4, f10_4, f16_4, f19_4, f20_4, f21_4, f22_4, f23_4, f24_4, f25_4, f26_4, f27_4, f28_4, f29_4, f30_4, f31_4, f32_4, f33_4, f34_4, f35_4, f36_4, f37_4, f38_4, f39_4, f40_4, f41_4, f42_4, f43_4, f44_4, f45_4, f46_4, f47_4, f48_4, f49_4, f50_4])
  have f54_5 := fun hh => getq q54_5 hh
  clear hT f50_4 f49_4 f48_4 f47_4 f46_4 f45_4 f44_4 f43_4 f42_4 f41_4 f40_4 f39_4 f38_4 f37_4 f36_4 f35_4 f34_4 f33_4 f32_4 f31_4 f30_4 f29_4 f28_4 f27_4 f26_4 f25_4 f24_4 f23_4 f22_4 f21_4 f20_4 f19_4 f16_4 f10_4 f8_4 f6_4 f5_4 f4_4 f3_4 f2_4 f9_4 hs4 q9_4 q2_4 q3_4 q4_4 q5_4 q6_4 q8_4 q10_4 q16_4 q19_4 q20_4 q21_4 q22_4 q23_4 q24_4 q25_4 q26_4 q27_4 q28_4 q29_4 q30_4 q31_4 q32_4 q33_4 q34_4 q35_4 q36_4 q37_4 q38_4 q39_4 q40_4 q41_4 q42_4 q43_4 q44_4 q45_4 q46_4 q47_4 q48_4 q49_4 q50_4
  refine with_world (C := fun W => Lay w [(w114.heap.size, m1, m2, m3), (w113.heap.size, m1, m2, m3), (w.heap.size, a, b, c), (w.heap.size + 1, ua, ub, uc), (w.heap.size + 1 + 1, za, zb, zc)] W) (Lay.c (g := w114.heap.size) (x0 := m1) (x1 := m2) (x2 := m3) (by simp [go_sem]) (by simp [go_sem]) (by simp [go_sem]) (by first | (simp; done) | (simp; omega)) (Lay.after (HFw114.out) (by repeat (first | exact Below.refl _ _ | refine bl_alloc ?_ _ | refine bl_drewN ?_ _ | refine bl_set ?_ (by first | omega | (simp; done) | (simp; omega)) _)))) ?_
  intro w115 hL_
  have HFw115 := Lib.hid hL_
  clear hL_ c00 c01 c02 z0 c10 c11 c12 z1 c20 c21 c22 z2 c30 c31 c32 z3
  obtain ⟨c00, c01, c02, z0, c10, c11, c12, z1, c20, c21, c22, z2, c30, c31, c32, z3, c40, c41, c42, z4, hbl⟩ := Lay.op (HFw115.out)
  clear hbl
  clear HA2 HB1 HB2 HC1 HC2 HD1 HD2 HE1 HE2 HT1 HT2 HM1 HM2
  clear HA1
  refine wp_cut (fun a' wx => ∃ T : Array Value, a' = ⟨T, []⟩ ∧ T.size = 702 ∧ At T 9 (.pointer (some ⟨w.heap.size, 0, none⟩)) ∧ At T 2 (.bool rt) ∧ At T 3 (.int .i64 p) ∧ At T 4 (.int .i64 h) ∧ At T 5 (.int .i64 n) ∧ At T 6 (.int .i64 k) ∧ At T 8 (.int .i64 v) ∧ At T 10 (.pointer (some ⟨w.heap.size + 1, 0, none⟩)) ∧ At T 16 (.pointer (some ⟨w.heap.size + 1 + 1, 0, none⟩)) ∧ At T 19 (.int .i64 N) ∧ At T 20 (.int .i64 D) ∧ At T 21 (.bool OK) ∧ At T 25 (.int .i64 X) ∧ At T 26 (.int .i64 Y) ∧ At T 31 (.int .i64 G) ∧ At T 32 (.int .i64 H) ∧ At T 37 (.int .i64 U) ∧ At T 38 (.int .i64 V) ∧ At T 43 (.int .i64 K) ∧ At T 47 (.string tx) ∧ At T 51 (.pointer (some ⟨w113.heap.size, 0, none⟩)) ∧ At T 308 (.bool false) ∧ Lay w [(w114.heap.size, m1, m2, m3), (w113.heap.size, m1, m2, m3), (w.heap.size, a, b, c), (w.heap.size + 1, ua, ub, uc), (w.heap.size + 1 + 1, za, zb, zc)] wx) ?rest ?first
  case first =>
    intro J K' hJ hK
    exact reg15 _ _ _ _ _ _ _ _ _ _ _ _ _ _ _ _ _ _ _ _ _ _ _ _ _ _ _ _ _ _ _ _ hs5 q9_5 q2_5 q3_5 q4_5 q5_5 q6_5 q8_5 q10_5 q16_5 q19_5 q20_5 q21_5 q22_5 q23_5 q24_5 q25_5 q26_5 q27_5 q28_5 q29_5 q30_5 q31_5 q32_5 q33_5 q34_5 q35_5 q36_5 q37_5 q38_5 q39_5 q40_5 q41_5 q42_5 q43_5 q44_5 q45_5 q46_5 q47_5 q48_5 q49_5 q50_5 q51_5 q52_5 q53_5 q54_5 (HFw115.out) HL1 HL2 _ _ _ hJ hK
  case rest =>
    intro a' wc1 hR1
    obtain ⟨T6, rfl, hs6, q9_6, q2_6, q3_6, q4_6, q5_6, q6_6, q8_6, q10_6, q16_6, q19_6, q20_6, q21_6, q25_6, q26_6, q31_6, q32_6, q37_6, q38_6, q43_6, q47_6, q51_6, q308_6, hL_⟩ := hR1
    have f9_6 := fun hh => getq q9_6 hh
    have f2_6 := fun hh => getq q2_6 hh
    have f3_6 := fun hh => getq q3_6 hh
    have f4_6 := fun hh => getq q4_6 hh
    have f5_6 := fun hh => getq q5_6 hh
    have f6_6 := fun hh => getq q6_6 hh
    have f8_6 := fun hh => getq q8_6 hh
    have f10_6 := fun hh => getq q10_6 hh
    have f16_6 := fun hh => getq q16_6 hh
    have f19_6 := fun hh => getq q19_6 hh
    have f20_6 := fun hh => getq q20_6 hh
    have f21_6 := fun hh => getq q21_6 hh
    have f25_6 := fun hh => getq q25_6 hh
    have f26_6 := fun hh => getq q26_6 hh
    have f31_6 := fun hh => getq q31_6 hh
    have f32_6 := fun hh => getq q32_6 hh
    have f37_6 := fun hh => getq q37_6 hh
    have f38_6 := fun hh => getq q38_6 hh
    have f43_6 := fun hh => getq q43_6 hh
    have f47_6 := fun hh => getq q47_6 hh
    have f51_6 := fun hh => getq q51_6 hh
    have f308_6 := fun hh => getq q308_6 hh
    have HFwc1 := Lib.hid hL_
    clear hL_
    obtain ⟨c00, c01, c02, z0, c10, c11, c12, z1, c20, c21, c22, z2, c30, c31, c32, z3, c40, c41, c42, z4, hbl⟩ := Lay.op (HFwc1.out)
    clear hbl
    clear HL1 HL2
    go_wp2_with fail
    refine wp_cond_f ?_ ?_
    · go_simp
    go_upto_region 17 with fail
    refine reframe fun T7 hT => ?_
    have hs7 : T7.size = 702 := by subst hT; simp [hs6]
    have q9_7 : At T7 9 (.pointer (some ⟨w.heap.size, 0, none⟩)) := by subst hT; exact (by first | (simp only [At, ↓Array.getElem?_setIfInBounds_ne, ne_eq, Nat.reduceEqDiff, not_false_eq_true, q9_6]; done) | simp [At, hs6, f9_6, f2_6, f3_6, f4_6, f5_6, f6_6, f8_6, f10_6, f16_6, f19_6, f20_6, f21_6, f25_6, f26_6, f31_6, f32_6, f37_6, f38_6, f43_6, f47_6, f51_6, f308_6])
    have f9_7 := fun hh => getq q9_7 hh
    have q2_7 : At T7 2 (.bool rt) := by subst hT; exact (by first | (simp only [At, ↓Array.getElem?_setIfInBounds_ne, ne_eq, Nat.reduceEqDiff, not_false_eq_true, q2_6]; done) | simp [At, hs6, f9_6, f2_6, f3_6, f4_6, f5_6, f6_6, f8_6, f10_6, f16_6, f19_6, f20_6, f21_6, f25_6, f26_6, f31_6, f32_6, f37_6, f38_6, f43_6, f47_6, f51_6, f308_6])
    have f2_7 := fun hh => getq q2_7 hh
    have q3_7 : At T7 3 (.int .i64 p) := by subst hT; exact (by first | (simp only [At, ↓Array.getElem?_setIfInBounds_ne, ne_eq, Nat.reduceEqDiff, not_false_eq_true, q3_6]; done) | simp [At, hs6, f9_6, f2_6, f3_6, f4_6, f5_6, f6_6, f8_6, f10_6, f16_6, f19_6, f20_6, f21_6, f25_6, f26_6, f31_6, f32_6, f37_6, f38_6, f43_6, f47_6, f51_6, f308_6])
    have f3_7 := fun hh => getq q3_7 hh
    have q4_7 : At T7 4 (.int .i64 h) := by subst hT; exact (by first | (simp only [At, ↓Array.getElem?_setIfInBounds_ne, ne_eq, Nat.reduceEqDiff, not_false_eq_true, q4_6]; done) | simp [At, hs6, f9_6, f2_6, f3_6, f4_6, f5_6, f6_6, f8_6, f10_6, f16_6, f19_6, f20_6, f21_6, f25_6, f26_6, f31_6, f32_6, f37_6, f38_6, f43_6, f47_6, f51_6, f308_6])
    have f4_7 := fun hh => getq q4_7 hh
    have q5_7 : At T7 5 (.int .i64 n) := by subst hT; exact (by first | (simp only [At, ↓Array.getElem?_setIfInBounds_ne, ne_eq, Nat.reduceEqDiff, not_false_eq_true, q5_6]; done) | simp [At, hs6, f9_6, f2_6, f3_6, f4_6, f5_6, f6_6, f8_6, f10_6, f16_6, f19_6, f20_6, f21_6, f25_6, f26_6, f31_6, f32_6, f37_6, f38_6, f43_6, f47_6, f51_6, f308_6])
    have f5_7 := fun hh => getq q5_7 hh
    have q6_7 : At T7 6 (.int .i64 k) := by subst hT; exact (by first | (simp only [At, ↓Array.getElem?_setIfInBounds_ne, ne_eq, Nat.reduceEqDiff, not_false_eq_true, q6_6]; done) | simp [At, hs6, f9_6, f2_6, f3_6, f4_6, f5_6, f6_6, f8_6, f10_6, f16_6, f19_6, f20_6, f21_6, f25_6, f26_6, f31_6, f32_6, f37_6, f38_6, f43_6, f47_6, f51_6, f308_6])
    have f6_7 := fun hh => getq q6_7 hh
    have q8_7 : At T7 8 (.int .i64 v) := by subst hT; exact (by first | (simp only [At, ↓Array.getElem?_setIfInBounds_ne, ne_eq, Nat.reduceEqDiff, not_false_eq_true, q8_6]; done) | simp [At, hs6, f9_6, f2_6, f3_6, f4_6, f5_6, f6_6, f8_6, f10_6, f16_6, f19_6, f20_6, f21_6, f25_6, f26_6, f31_6, f32_6, f37_6, f38_6, f43_6, f47_6, f51_6, f308_6])
    have f8_7 := fun hh => getq q8_7 hh
    have q10_7 : At T7 10 (.pointer (some ⟨w.heap.size + 1, 0, none⟩)) := by subst hT; exact (by first | (simp only [At, ↓Array.getElem?_setIfInBounds_ne, ne_eq, Nat.reduceEqDiff, not_false_eq_true, q10_6]; done) | simp [At, hs6, f9_6, f2_6, f3_6, f4_6, f5_6, f6_6, f8_6, f10_6, f16_6, f19_6, f20_6, f21_6, f25_6, f26_6, f31_6, f32_6, f37_6, f38_6, f43_6, f47_6, f51_6, f308_6])
    have f10_7 := fun hh => getq q10_7 hh
    have q16_7 : At T7 16 (.pointer (some ⟨w.heap.size + 1 + 1, 0, none⟩)) := by subst hT; exact (by first | (simp only [At, ↓Array.getElem?_setIfInBounds_ne, ne_eq, Nat.reduceEqDiff, not_false_eq_true, q16_6]; done) | simp [At, hs6, f9_6, f2_6, f3_6, f4_6, f5_6, f6_6, f8_6, f10_6, f16_6, f19_6, f20_6, f21_6, f25_6, f26_6, f31_6, f32_6, f37_6, f38_6, f43_6, f47_6, f51_6, f308_6])
    have f16_7 := fun hh => getq q16_7 hh
    have q19_7 : At T7 19 (.int .i64 N) := by subst hT; exact (by first | (simp only [At, ↓Array.getElem?_setIfInBounds_ne, ne_eq, Nat.reduceEqDiff, not_false_eq_true, q19_6]; done) | simp [At, hs6, f9_6, f2_6, f3_6, f4_6, f5_6, f6_6, f8_6, f10_6, f16_6, f19_6, f20_6, f21_6, f25_6, f26_6, f31_6, f32_6, f37_6, f38_6, f43_6, f47_6, f51_6, f308_6])
    have f19_7 := fun hh => getq q19_7 hh
    have q20_7 : At T7 20 (.int .i64 D) := by subst hT; exact (by first | (simp only [At, ↓Array.getElem?_setIfInBounds_ne, ne_eq, Nat.reduceEqDiff, not_false_eq_true, q20_6]; done) | simp [At, hs6, f9_6, f2_6, f3_6, f4_6, f5_6, f6_6, f8_6, f10_6, f16_6, f19_6, f20_6, f21_6, f25_6, f26_6, f31_6, f32_6, f37_6, f38_6, f43_6, f47_6, f51_6, f308_6])
    have f20_7 := fun hh => getq q20_7 hh
    have q21_7 : At T7 21 (.bool OK) := by subst hT; exact (by first | (simp only [At, ↓Array.getElem?_setIfInBounds_ne, ne_eq, Nat.reduceEqDiff, not_false_eq_true, q21_6]; done) | simp [At, hs6, f9_6, f2_6, f3_6, f4_6, f5_6, f6_6, f8_6, f10_6, f16_6, f19_6, f20_6, f21_6, f25_6, f26_6, f31_6, f32_6, f37_6, f38_6, f43_6, f47_6, f51_6, f308_6])
    have f21_7 := fun hh => getq q21_7 hh
    have q25_7 : At T7 25 (.int .i64 X) := by subst hT; exact (by first | (simp only [At, ↓Array.getElem?_setIfInBounds_ne, ne_eq, Nat.reduceEqDiff, not_false_eq_true, q25_6]; done) | simp [At, hs6, f9_6, f2_6, f3_6, f4_6, f5_6, f6_6, f8_6, f10_6, f16_6, f19_6, f20_6, f21_6, f25_6, f26_6, f31_6, f32_6, f37_6, f38_6, f43_6, f47_6, f51_6, f308_6])
    have f25_7 := fun hh => getq q25_7 hh
    have q26_7 : At T7 26 (.int .i64 Y) := by subst hT; exact (by first | (simp only [At, ↓Array.getElem?_setIfInBounds_ne, ne_eq, Nat.reduceEqDiff, not_false_eq_true, q26_6]; done) | simp [At, hs6, f9_6, f2_6, f3_6, f4_6, f5_6, f6_6, f8_6, f10_6, f16_6, f19_6, f20_6, f21_6, f25_6, f26_6, f31_6, f32_6, f37_6, f38_6, f43_6, f47_6, f51_6, f308_6])
    have f26_7 := fun hh => getq q26_7 hh
    have q31_7 : At T7 31 (.int .i64 G) := by subst hT; exact (by first | (simp only [At, ↓Array.getElem?_setIfInBounds_ne, ne_eq, Nat.reduceEqDiff, not_false_eq_true, q31_6]; done) | simp [At, hs6, f9_6, f2_6, f3_6, f4_6, f5_6, f6_6, f8_6, f10_6, f16_6, f19_6, f20_6, f21_6, f25_6, f26_6, f31_6, f32_6, f37_6, f38_6, f43_6, f47_6, f51_6, f308_6])
    have f31_7 := fun hh => getq q31_7 hh
    have q32_7 : At T7 32 (.int .i64 H) := by subst hT; exact (by first | (simp only [At, ↓Array.getElem?_setIfInBounds_ne, ne_eq, Nat.reduceEqDiff, not_false_eq_true, q32_6]; done) | simp [At, hs6, f9_6, f2_6, f3_6, f4_6, f5_6, f6_6, f8_6, f10_6, f16_6, f19_6, f20_6, f21_6, f25_6, f26_6, f31_6, f32_6, f37_6, f38_6, f43_6, f47_6, f51_6, f308_6])
    have f32_7 := fun hh => getq q32_7 hh
    have q37_7 : At T7 37 (.int .i64 U) := by subst hT; exact (by first | (simp only [At, ↓Array.getElem?_setIfInBounds_ne, ne_eq, Nat.reduceEqDiff, not_false_eq_true, q37_6]; done) | simp [At, hs6, f9_6, f2_6, f3_6, f4_6, f5_6, f6_6, f8_6, f10_6, f16_6, f19_6, f20_6, f21_6, f25_6, f26_6, f31_6, f32_6, f37_6, f38_6, f43_6, f47_6, f51_6, f308_6])
    have f37_7 := fun hh => getq q37_7 hh
    have q38_7 : At T7 38 (.int .i64 V) := by subst hT; exact (by first | (simp only [At, ↓Array.getElem?_setIfInBounds_ne, ne_eq, Nat.reduceEqDiff, not_false_eq_true, q38_6]; done) | simp [At, hs6, f9_6, f2_6, f3_6, f4_6, f5_6, f6_6, f8_6, f10_6, f16_6, f19_6, f20_6, f21_6, f25_6, f26_6, f31_6, f32_6, f37_6, f38_6, f43_6, f47_6, f51_6, f308_6])
    have f38_7 := fun hh => getq q38_7 hh
    have q43_7 : At T7 43 (.int .i64 K) := by subst hT; exact (by first | (simp only [At, ↓Array.getElem?_setIfInBounds_ne, ne_eq, Nat.reduceEqDiff, not_false_eq_true, q43_6]; done) | simp [At, hs6, f9_6, f2_6, f3_6, f4_6, f5_6, f6_6, f8_6, f10_6, f16_6, f19_6, f20_6, f21_6, f25_6, f26_6, f31_6, f32_6, f37_6, f38_6, f43_6, f47_6, f51_6, f308_6])
    have f43_7 := fun hh => getq q43_7 hh
    have q47_7 : At T7 47 (.string tx) := by subst hT; exact (by first | (simp only [At, ↓Array.getElem?_setIfInBounds_ne, ne_eq, Nat.reduceEqDiff, not_false_eq_true, q47_6]; done) | simp [At, hs6, f9_6, f2_6, f3_6, f4_6, f5_6, f6_6, f8_6, f10_6, f16_6, f19_6, f20_6, f21_6, f25_6, f26_6, f31_6, f32_6, f37_6, f38_6, f43_6, f47_6, f51_6, f308_6])
    have f47_7 := fun hh => getq q47_7 hh
    have q51_7 : At T7 51 (.pointer (some ⟨w113.heap.size, 0, none⟩)) := by subst hT; exact (by first | (simp only [At, ↓Array.getElem?_setIfInBounds_ne, ne_eq, Nat.reduceEqDiff, not_false_eq_true, q51_6]; done) | simp [At, hs6, f9_6, f2_6, f3_6, f4_6, f5_6, f6_6, f8_6, f10_6, f16_6, f19_6, f20_6, f21_6, f25_6, f26_6, f31_6, f32_6, f37_6, f38_6, f43_6, f47_6, f51_6, f308_6])
    have f51_7 := fun hh => getq q51_7 hh
    have q308_7 : At T7 308 (.bool false) := by subst hT; exact (by first | (simp only [At, ↓Array.getElem?_setIfInBounds_ne, ne_eq, Nat.reduceEqDiff, not_false_eq_true, q308_6]; done) | simp [At, hs6, f9_6, f2_6, f3_6, f4_6, f5_6, f6_6, f8_6, f10_6, f16_6, f19_6, f20_6, f21_6, f25_6, f26_6, f31_6, f32_6, f37_6, f38_6, f43_6, f47_6, f51_6, f308_6])
    have f308_7 := fun hh => getq q308_7 hh
    clear hT f308_6 f51_6 f47_6 f43_6 f38_6 f37_6 f32_6 f31_6 f26_6 f25_6 f21_6 f20_6 f19_6 f16_6 f10_6 f8_6 f6_6 f5_6 f4_6 f3_6 f2_6 f9_6 hs6 q9_6 q2_6 q3_6 q4_6 q5_6 q6_6 q8_6 q10_6 q16_6 q19_6 q20_6 q21_6 q25_6 q26_6 q31_6 q32_6 q37_6 q38_6 q43_6 q47_6 q51_6 q308_6
    go_wp2_with fail
    refine wp_cut (fun a' wx => ∃ T : Array Value, a' = ⟨T, []⟩ ∧ T.size = 702 ∧ At T 2 (.bool rt) ∧ At T 3 (.int .i64 p) ∧ At T 4 (.int .i64 h) ∧ At T 5 (.int .i64 n) ∧ At T 6 (.int .i64 k) ∧ At T 8 (.int .i64 v) ∧ At T 10 (.pointer (some ⟨w.heap.size + 1, 0, none⟩)) ∧ At T 16 (.pointer (some ⟨w.heap.size + 1 + 1, 0, none⟩)) ∧ Lay w [(w.heap.size + 1, ua, ub, uc), (w.heap.size + 1 + 1, za, zb, zc)] wx) ?rest2 ?first2
    case first2 =>
      intro J K' hJ hK
      cases OK
      · go_wp2_with fail
        refine wp_cond_f ?_ ?_
        · go_simp
        go_wp2_with fail
        refine Met.intro (hJ _ _ ⟨_, rfl, by simp [hs7], by first | (simp only [At, ↓Array.getElem?_setIfInBounds_ne, ne_eq, Nat.reduceEqDiff, not_false_eq_true, q2_7]; done) | simp [At, hs7, f9_7, f2_7, f3_7, f4_7, f5_7, f6_7, f8_7, f10_7, f16_7, f19_7, f20_7, f21_7, f25_7, f26_7, f31_7, f32_7, f37_7, f38_7, f43_7, f47_7, f51_7, f308_7], by first | (simp only [At, ↓Array.getElem?_setIfInBounds_ne, ne_eq, Nat.reduceEqDiff, not_false_eq_true, q3_7]; done) | simp [At, hs7, f9_7, f2_7, f3_7, f4_7, f5_7, f6_7, f8_7, f10_7, f16_7, f19_7, f20_7, f21_7, f25_7, f26_7, f31_7, f32_7, f37_7, f38_7, f43_7, f47_7, f51_7, f308_7], by first | (simp only [At, ↓Array.getElem?_setIfInBounds_ne, ne_eq, Nat.reduceEqDiff, not_false_eq_true, q4_7]; done) | simp [At, hs7, f9_7, f2_7, f3_7, f4_7, f5_7, f6_7, f8_7, f10_7, f16_7, f19_7, f20_7, f21_7, f25_7, f26_7, f31_7, f32_7, f37_7, f38_7, f43_7, f47_7, f51_7, f308_7], by first | (simp only [At, ↓Array.getElem?_setIfInBounds_ne, ne_eq, Nat.reduceEqDiff, not_false_eq_true, q5_7]; done) | simp [At, hs7, f9_7, f2_7, f3_7, f4_7, f5_7, f6_7, f8_7, f10_7, f16_7, f19_7, f20_7, f21_7, f25_7, f26_7, f31_7, f32_7, f37_7, f38_7, f43_7, f47_7, f51_7, f308_7], by first | (simp only [At, ↓Array.getElem?_setIfInBounds_ne, ne_eq, Nat.reduceEqDiff, not_false_eq_true, q6_7]; done) | simp [At, hs7, f9_7, f2_7, f3_7, f4_7, f5_7, f6_7, f8_7, f10_7, f16_7, f19_7, f20_7, f21_7, f25_7, f26_7, f31_7, f32_7, f37_7, f38_7, f43_7, f47_7, f51_7, f308_7], by first | (simp only [At, ↓Array.getElem?_setIfInBounds_ne, ne_eq, Nat.reduceEqDiff, not_false_eq_true, q8_7]; done) | simp [At, hs7, f9_7, f2_7, f3_7, f4_7, f5_7, f6_7, f8_7, f10_7, f16_7, f19_7, f20_7, f21_7, f25_7, f26_7, f31_7, f32_7, f37_7, f38_7, f43_7, f47_7, f51_7, f308_7], by first | (simp only [At, ↓Array.getElem?_setIfInBounds_ne, ne_eq, Nat.reduceEqDiff, not_false_eq_true, q10_7]; done) | simp [At, hs7, f9_7, f2_7, f3_7, f4_7, f5_7, f6_7, f8_7, f10_7, f16_7, f19_7, f20_7, f21_7, f25_7, f26_7, f31_7, f32_7, f37_7, f38_7, f43_7, f47_7, f51_7, f308_7], by first | (simp only [At, ↓Array.getElem?_setIfInBounds_ne, ne_eq, Nat.reduceEqDiff, not_false_eq_true, q16_7]; done) | simp [At, hs7, f9_7, f2_7, f3_7, f4_7, f5_7, f6_7, f8_7, f10_7, f16_7, f19_7, f20_7, f21_7, f25_7, f26_7, f31_7, f32_7, f37_7, f38_7, f43_7, f47_7, f51_7, f308_7], Lay.tl (Lay.tl (Lay.tl (HFwc1.out)))⟩)
      · obtain ⟨⟨rfl, rfl, rfl⟩, HX1, HX2, HX3, HI1, HI2, HJ1, HJ2, eM, eG, eK, eU, HO, ⟨⟨a1, a2⟩, ⟨b1, b2⟩, c1, c2⟩, ⟨N1, N2⟩, ⟨D1, D2⟩, ⟨X1_, X2_⟩, ⟨Y1_, Y2_⟩, ⟨M1, M2⟩, ⟨G1_, G2_⟩, ⟨H1_, H2_⟩, ⟨U1_, U2_⟩, V1_, V2_⟩ := FA.out rfl
        clear FA
        have EM := Lib.hid eM
        have EG := Lib.hid eG
        have EU := Lib.hid eU
        subst eK
        clear eM eG eU
        have w0_ : IntKind.i64.wrap (b + c) = b + c := IntWalk.i64_in _ ⟨by omega, by omega⟩
        go_wp2_with fail
        refine wp_cond_t ?_ ?_
        · go_simp
        go_wp2_with fail
        refine ((HX1 _).out).mono ?_
        rintro e w116 ⟨rfl, hb_⟩
        have HFw116 := Lib.hid (Lay.after (w := w) (B := [(w114.heap.size, a, c, b), (w113.heap.size, a, c, b), (w.heap.size, a, b, c), (w.heap.size + 1, ua, ub, uc), (w.heap.size + 1 + 1, za, zb, zc)]) (Lay.after (HFwc1.out) (by repeat (first | exact Below.refl _ _ | refine bl_alloc ?_ _ | refine bl_drewN ?_ _ | refine bl_set ?_ (by first | omega | (simp; done) | (simp; omega)) _))) hb_)
        clear hb_ c00 c01 c02 z0 c10 c11 c12 z1 c20 c21 c22 z2 c30 c31 c32 z3 c40 c41 c42 z4
        obtain ⟨c00, c01, c02, z0, c10, c11, c12, z1, c20, c21, c22, z2, c30, c31, c32, z3, c40, c41, c42, z4, hbl⟩ := Lay.op (HFw116.out)
        clear hbl
        go_wp2_with fail
        refine ((HX2 _).out).mono ?_
        rintro e w117 ⟨rfl, hb_⟩
        have HFw117 := Lib.hid (Lay.after (w := w) (B := [(w114.heap.size, a, c, b), (w113.heap.size, a, c, b), (w.heap.size, a, b, c), (w.heap.size + 1, ua, ub, uc), (w.heap.size + 1 + 1, za, zb, zc)]) (Lay.after (HFw116.out) (by repeat (first | exact Below.refl _ _ | refine bl_alloc ?_ _ | refine bl_drewN ?_ _ | refine bl_set ?_ (by first | omega | (simp; done) | (simp; omega)) _))) hb_)
        clear hb_ c00 c01 c02 z0 c10 c11 c12 z1 c20 c21 c22 z2 c30 c31 c32 z3 c40 c41 c42 z4
        obtain ⟨c00, c01, c02, z0, c10, c11, c12, z1, c20, c21, c22, z2, c30, c31, c32, z3, c40, c41, c42, z4, hbl⟩ := Lay.op (HFw117.out)
        clear hbl
        go_wp2_with fail
        refine ((HX3 _ (HTA.out.below (Lay.bl (HFw117.out))) (HER.out.below (Lay.bl (HFw117.out))) (HMX.out.below (Lay.bl (HFw117.out)))).out).mono ?_
        rintro e w118 ⟨rfl, hb_⟩
        have HFw118 := Lib.hid (Lay.after (w := w) (B := [(w114.heap.size, a, c, b), (w113.heap.size, a, c, b), (w.heap.size, a, b, c), (w.heap.size + 1, ua, ub, uc), (w.heap.size + 1 + 1, za, zb, zc)]) (Lay.after (HFw117.out) (by repeat (first | exact Below.refl _ _ | refine bl_alloc ?_ _ | refine bl_drewN ?_ _ | refine bl_set ?_ (by first | omega | (simp; done) | (simp; omega)) _))) hb_)
        clear hb_ c00 c01 c02 z0 c10 c11 c12 z1 c20 c21 c22 z2 c30 c31 c32 z3 c40 c41 c42 z4
        obtain ⟨c00, c01, c02, z0, c10, c11, c12, z1, c20, c21, c22, z2, c30, c31, c32, z3, c40, c41, c42, z4, hbl⟩ := Lay.op (HFw118.out)
        clear hbl
        go_upto_region 22 with fail
        refine reframe fun T8 hT => ?_
        have hs8 : T8.size = 702 := by subst hT; simp [hs7]
        have q9_8 : At T8 9 (.pointer (some ⟨w.heap.size, 0, none⟩)) := by subst hT; exact (by first | (simp only [At, ↓Array.getElem?_setIfInBounds_ne, ne_eq, Nat.reduceEqDiff, not_false_eq_true, q9_7]; done) | simp [At, hs7, f9_7, f2_7, f3_7, f4_7, f5_7, f6_7, f8_7, f10_7, f16_7, f19_7, f20_7, f21_7, f25_7, f26_7, f31_7, f32_7, f37_7, f38_7, f43_7, f47_7, f51_7, f308_7, w0_])
        have f9_8 := fun hh => getq q9_8 hh
        have q2_8 : At T8 2 (.bool rt) := by subst hT; exact (by first | (simp only [At, ↓Array.getElem?_setIfInBounds_ne, ne_eq, Nat.reduceEqDiff, not_false_eq_true, q2_7]; done) | simp [At, hs7, f9_7, f2_7, f3_7, f4_7, f5_7, f6_7, f8_7, f10_7, f16_7, f19_7, f20_7, f21_7, f25_7, f26_7, f31_7, f32_7, f37_7, f38_7, f43_7, f47_7, f51_7, f308_7, w0_])
        have f2_8 := fun hh => getq q2_8 hh
        have q3_8 : At T8 3 (.int .i64 p) := by subst hT; exact (by first | (simp only [At, ↓Array.getElem?_setIfInBounds_ne, ne_eq, Nat.reduceEqDiff, not_false_eq_true, q3_7]; done) | simp [At, hs7, f9_7, f2_7, f3_7, f4_7, f5_7, f6_7, f8_7, f10_7, f16_7, f19_7, f20_7, f21_7, f25_7, f26_7, f31_7, f32_7, f37_7, f38_7, f43_7, f47_7, f51_7, f308_7, w0_])
        have f3_8 := fun hh => getq q3_8 hh
        have q4_8 : At T8 4 (.int .i64 h) := by subst hT; exact (by first | (simp only [At, ↓Array.getElem?_setIfInBounds_ne, ne_eq, Nat.reduceEqDiff, not_false_eq_true, q4_7]; done) | simp [At, hs7, f9_7, f2_7, f3_7, f4_7, f5_7, f6_7, f8_7, f10_7, f16_7, f19_7, f20_7, f21_7, f25_7, f26_7, f31_7, f32_7, f37_7, f38_7, f43_7, f47_7, f51_7, f308_7, w0_])
        have f4_8 := fun hh => getq q4_8 hh
        have q5_8 : At T8 5 (.int .i64 n) := by subst hT; exact (by first | (simp only [At, ↓Array.getElem?_setIfInBounds_ne, ne_eq, Nat.reduceEqDiff, not_false_eq_true, q5_7]; done) | simp [At, hs7, f9_7, f2_7, f3_7, f4_7, f5_7, f6_7, f8_7, f10_7, f16_7, f19_7, f20_7, f21_7, f25_7, f26_7, f31_7, f32_7, f37_7, f38_7, f43_7, f47_7, f51_7, f308_7, w0_])
        have f5_8 := fun hh => getq q5_8 hh
        have q6_8 : At T8 6 (.int .i64 k) := by subst hT; exact (by first | (simp only [At, ↓Array.getElem?_setIfInBounds_ne, ne_eq, Nat.reduceEqDiff, not_false_eq_true, q6_7]; done) | simp [At, hs7, f9_7, f2_7, f3_7, f4_7, f5_7, f6_7, f8_7, f10_7, f16_7, f19_7, f20_7, f21_7, f25_7, f26_7, f31_7, f32_7, f37_7, f38_7, f43_7, f47_7, f51_7, f308_7, w0_])
        have f6_8 := fun hh => getq q6_8 hh
        have q8_8 : At T8 8 (.int .i64 v) := by subst hT; exact (by first | (simp only [At, ↓Array.getElem?_setIfInBounds_ne, ne_eq, Nat.reduceEqDiff, not_false_eq_true, q8_7]; done) | simp [At, hs7, f9_7, f2_7, f3_7, f4_7, f5_7, f6_7, f8_7, f10_7, f16_7, f19_7, f20_7, f21_7, f25_7, f26_7, f31_7, f32_7, f37_7, f38_7, f43_7, f47_7, f51_7, f308_7, w0_])
        have f8_8 := fun hh => getq q8_8 hh
        have q10_8 : At T8 10 (.pointer (some ⟨w.heap.size + 1, 0, none⟩)) := by subst hT; exact (by first | (simp only [At, ↓Array.getElem?_setIfInBounds_ne, ne_eq, Nat.reduceEqDiff, not_false_eq_true, q10_7]; done) | simp [At, hs7, f9_7, f2_7, f3_7, f4_7, f5_7, f6_7, f8_7, f10_7, f16_7, f19_7, f20_7, f21_7, f25_7, f26_7, f31_7, f32_7, f37_7, f38_7, f43_7, f47_7, f51_7, f308_7, w0_])
        have f10_8 := fun hh => getq q10_8 hh
        have q16_8 : At T8 16 (.pointer (some ⟨w.heap.size + 1 + 1, 0, none⟩)) := by subst hT; exact (by first | (simp only [At, ↓Array.getElem?_setIfInBounds_ne, ne_eq, Nat.reduceEqDiff, not_false_eq_true, q16_7]; done) | simp [At, hs7, f9_7, f2_7, f3_7, f4_7, f5_7, f6_7, f8_7, f10_7, f16_7, f19_7, f20_7, f21_7, f25_7, f26_7, f31_7, f32_7, f37_7, f38_7, f43_7, f47_7, f51_7, f308_7, w0_])
        have f16_8 := fun hh => getq q16_8 hh
        have q19_8 : At T8 19 (.int .i64 N) := by subst hT; exact (by first | (simp only [At, ↓Array.getElem?_setIfInBounds_ne, ne_eq, Nat.reduceEqDiff, not_false_eq_true, q19_7]; done) | simp [At, hs7, f9_7, f2_7, f3_7, f4_7, f5_7, f6_7, f8_7, f10_7, f16_7, f19_7, f20_7, f21_7, f25_7, f26_7, f31_7, f32_7, f37_7, f38_7, f43_7, f47_7, f51_7, f308_7, w0_])
        have f19_8 := fun hh => getq q19_8 hh
        have q20_8 : At T8 20 (.int .i64 D) := by subst hT; exact (by first | (simp only [At, ↓Array.getElem?_setIfInBounds_ne, ne_eq, Nat.reduceEqDiff, not_false_eq_true, q20_7]; done) | simp [At, hs7, f9_7, f2_7, f3_7, f4_7, f5_7, f6_7, f8_7, f10_7, f16_7, f19_7, f20_7, f21_7, f25_7, f26_7, f31_7, f32_7, f37_7, f38_7, f43_7, f47_7, f51_7, f308_7, w0_])
        have f20_8 := fun hh => getq q20_8 hh
        have q25_8 : At T8 25 (.int .i64 X) := by subst hT; exact (by first | (simp only [At, ↓Array.getElem?_setIfInBounds_ne, ne_eq, Nat.reduceEqDiff, not_false_eq_true, q25_7]; done) | simp [At, hs7, f9_7, f2_7, f3_7, f4_7, f5_7, f6_7, f8_7, f10_7, f16_7, f19_7, f20_7, f21_7, f25_7, f26_7, f31_7, f32_7, f37_7, f38_7, f43_7, f47_7, f51_7, f308_7, w0_])
        have f25_8 := fun hh => getq q25_8 hh
        have q26_8 : At T8 26 (.int .i64 Y) := by subst hT; exact (by first | (simp only [At, ↓Array.getElem?_setIfInBounds_ne, ne_eq, Nat.reduceEqDiff, not_false_eq_true, q26_7]; done) | simp [At, hs7, f9_7, f2_7, f3_7, f4_7, f5_7, f6_7, f8_7, f10_7, f16_7, f19_7, f20_7, f21_7, f25_7, f26_7, f31_7, f32_7, f37_7, f38_7, f43_7, f47_7, f51_7, f308_7, w0_])
        have f26_8 := fun hh => getq q26_8 hh
        have q31_8 : At T8 31 (.int .i64 G) := by subst hT; exact (by first | (simp only [At, ↓Array.getElem?_setIfInBounds_ne, ne_eq, Nat.reduceEqDiff, not_false_eq_true, q31_7]; done) | simp [At, hs7, f9_7, f2_7, f3_7, f4_7, f5_7, f6_7, f8_7, f10_7, f16_7, f19_7, f20_7, f21_7, f25_7, f26_7, f31_7, f32_7, f37_7, f38_7, f43_7, f47_7, f51_7, f308_7, w0_])
        have f31_8 := fun hh => getq q31_8 hh
        have q32_8 : At T8 32 (.int .i64 H) := by subst hT; exact (by first | (simp only [At, ↓Array.getElem?_setIfInBounds_ne, ne_eq, Nat.reduceEqDiff, not_false_eq_true, q32_7]; done) | simp [At, hs7, f9_7, f2_7, f3_7, f4_7, f5_7, f6_7, f8_7, f10_7, f16_7, f19_7, f20_7, f21_7, f25_7, f26_7, f31_7, f32_7, f37_7, f38_7, f43_7, f47_7, f51_7, f308_7, w0_])
        have f32_8 := fun hh => getq q32_8 hh
        have q37_8 : At T8 37 (.int .i64 U) := by subst hT; exact (by first | (simp only [At, ↓Array.getElem?_setIfInBounds_ne, ne_eq, Nat.reduceEqDiff, not_false_eq_true, q37_7]; done) | simp [At, hs7, f9_7, f2_7, f3_7, f4_7, f5_7, f6_7, f8_7, f10_7, f16_7, f19_7, f20_7, f21_7, f25_7, f26_7, f31_7, f32_7, f37_7, f38_7, f43_7, f47_7, f51_7, f308_7, w0_])
        have f37_8 := fun hh => getq q37_8 hh
        have q38_8 : At T8 38 (.int .i64 V) := by subst hT; exact (by first | (simp only [At, ↓Array.getElem?_setIfInBounds_ne, ne_eq, Nat.reduceEqDiff, not_false_eq_true, q38_7]; done) | simp [At, hs7, f9_7, f2_7, f3_7, f4_7, f5_7, f6_7, f8_7, f10_7, f16_7, f19_7, f20_7, f21_7, f25_7, f26_7, f31_7, f32_7, f37_7, f38_7, f43_7, f47_7, f51_7, f308_7, w0_])
        have f38_8 := fun hh => getq q38_8 hh
        have q43_8 : At T8 43 (.int .i64 (N.tdiv D)) := by subst hT; exact (by first | (simp only [At, ↓Array.getElem?_setIfInBounds_ne, ne_eq, Nat.reduceEqDiff, not_false_eq_true, q43_7]; done) | simp [At, hs7, f9_7, f2_7, f3_7, f4_7, f5_7, f6_7, f8_7, f10_7, f16_7, f19_7, f20_7, f21_7, f25_7, f26_7, f31_7, f32_7, f37_7, f38_7, f43_7, f47_7, f51_7, f308_7, w0_])
        have f43_8 := fun hh => getq q43_8 hh
        have q55_8 : At T8 55 (.int .i64 (b + c)) := by subst hT; exact (by first | (simp only [At, ↓Array.getElem?_setIfInBounds_ne, ne_eq, Nat.reduceEqDiff, not_false_eq_true]; done) | simp [At, hs7, f9_7, f2_7, f3_7, f4_7, f5_7, f6_7, f8_7, f10_7, f16_7, f19_7, f20_7, f21_7, f25_7, f26_7, f31_7, f32_7, f37_7, f38_7, f43_7, f47_7, f51_7, f308_7, w0_])
        have f55_8 := fun hh => getq q55_8 hh
        have q56_8 : At T8 56 (.int .i64 N) := by subst hT; exact (by first | (simp only [At, ↓Array.getElem?_setIfInBounds_ne, ne_eq, Nat.reduceEqDiff, not_false_eq_true]; done) | simp [At, hs7, f9_7, f2_7, f3_7, f4_7, f5_7, f6_7, f8_7, f10_7, f16_7, f19_7, f20_7, f21_7, f25_7, f26_7, f31_7, f32_7, f37_7, f38_7, f43_7, f47_7, f51_7, f308_7, w0_])
        have f56_8 := fun hh => getq q56_8 hh
        have q57_8 : At T8 57 (.int .i64 D) := by subst hT; exact (by first | (simp only [At, ↓Array.getElem?_setIfInBounds_ne, ne_eq, Nat.reduceEqDiff, not_false_eq_true]; done) | simp [At, hs7, f9_7, f2_7, f3_7, f4_7, f5_7, f6_7, f8_7, f10_7, f16_7, f19_7, f20_7, f21_7, f25_7, f26_7, f31_7, f32_7, f37_7, f38_7, f43_7, f47_7, f51_7, f308_7, w0_])
        have f57_8 := fun hh => getq q57_8 hh
        have q58_8 : At T8 58 (.bool true) := by subst hT; exact (by first | (simp only [At, ↓Array.getElem?_setIfInBounds_ne, ne_eq, Nat.reduceEqDiff, not_false_eq_true]; done) | simp [At, hs7, f9_7, f2_7, f3_7, f4_7, f5_7, f6_7, f8_7, f10_7, f16_7, f19_7, f20_7, f21_7, f25_7, f26_7, f31_7, f32_7, f37_7, f38_7, f43_7, f47_7, f51_7, f308_7, w0_])
        have f58_8 := fun hh => getq q58_8 hh
        have q59_8 : At T8 59 (.int .i64 M) := by subst hT; exact (by first | (simp only [At, ↓Array.getElem?_setIfInBounds_ne, ne_eq, Nat.reduceEqDiff, not_false_eq_true]; done) | simp [At, hs7, f9_7, f2_7, f3_7, f4_7, f5_7, f6_7, f8_7, f10_7, f16_7, f19_7, f20_7, f21_7, f25_7, f26_7, f31_7, f32_7, f37_7, f38_7, f43_7, f47_7, f51_7, f308_7, w0_])
        have f59_8 := fun hh => getq q59_8 hh
        have q60_8 : At T8 60 (.int .i64 Y) := by subst hT; exact (by first | (simp only [At, ↓Array.getElem?_setIfInBounds_ne, ne_eq, Nat.reduceEqDiff, not_false_eq_true]; done) | simp [At, hs7, f9_7, f2_7, f3_7, f4_7, f5_7, f6_7, f8_7, f10_7, f16_7, f19_7, f20_7, f21_7, f25_7, f26_7, f31_7, f32_7, f37_7, f38_7, f43_7, f47_7, f51_7, f308_7, w0_])
        have f60_8 := fun hh => getq q60_8 hh
        have q61_8 : At T8 61 (.bool true) := by subst hT; exact (by first | (simp only [At, ↓Array.getElem?_setIfInBounds_ne, ne_eq, Nat.reduceEqDiff, not_false_eq_true]; done) | simp [At, hs7, f9_7, f2_7, f3_7, f4_7, f5_7, f6_7, f8_7, f10_7, f16_7, f19_7, f20_7, f21_7, f25_7, f26_7, f31_7, f32_7, f37_7, f38_7, f43_7, f47_7, f51_7, f308_7, w0_])
        have f61_8 := fun hh => getq q61_8 hh
        have q62_8 : At T8 62 (.pointer (some ⟨w118.heap.size, 0, none⟩)) := by subst hT; exact (by first | (simp only [At, ↓Array.getElem?_setIfInBounds_ne, ne_eq, Nat.reduceEqDiff, not_false_eq_true]; done) | simp [At, hs7, f9_7, f2_7, f3_7, f4_7, f5_7, f6_7, f8_7, f10_7, f16_7, f19_7, f20_7, f21_7, f25_7, f26_7, f31_7, f32_7, f37_7, f38_7, f43_7, f47_7, f51_7, f308_7, w0_])
        have f62_8 := fun hh => getq q62_8 hh
        have q63_8 : At T8 63 (.bool true) := by subst hT; exact (by first | (simp only [At, ↓Array.getElem?_setIfInBounds_ne, ne_eq, Nat.reduceEqDiff, not_false_eq_true]; done) | simp [At, hs7, f9_7, f2_7, f3_7, f4_7, f5_7, f6_7, f8_7, f10_7, f16_7, f19_7, f20_7, f21_7, f25_7, f26_7, f31_7, f32_7, f37_7, f38_7, f43_7, f47_7, f51_7, f308_7, w0_])
        have f63_8 := fun hh => getq q63_8 hh
        clear hT f308_7 f51_7 f47_7 f43_7 f38_7 f37_7 f32_7 f31_7 f26_7 f25_7 f21_7 f20_7 f19_7 f16_7 f10_7 f8_7 f6_7 f5_7 f4_7 f3_7 f2_7 f9_7 hs7 q9_7 q2_7 q3_7 q4_7 q5_7 q6_7 q8_7 q10_7 q16_7 q19_7 q20_7 q21_7 q25_7 q26_7 q31_7 q32_7 q37_7 q38_7 q43_7 q47_7 q51_7 q308_7
        refine with_world (C := fun W => Lay w [(w118.heap.size, a, b, c), (w114.heap.size, a, c, b), (w113.heap.size, a, c, b), (w.heap.size, a, b, c), (w.heap.size + 1, ua, ub, uc), (w.heap.size + 1 + 1, za, zb, zc)] W) (Lay.c (g := w118.heap.size) (x0 := a) (x1 := b) (x2 := c) (by simp [go_sem]) (by simp [go_sem]) (by simp [go_sem]) (by first | (simp; done) | (simp; omega)) (Lay.after (HFw118.out) (by repeat (first | exact Below.refl _ _ | refine bl_alloc ?_ _ | refine bl_drewN ?_ _ | refine bl_set ?_ (by first | omega | (simp; done) | (simp; omega)) _)))) ?_
        intro w119 hL_
        have HFw119 := Lib.hid hL_
        clear hL_ c00 c01 c02 z0 c10 c11 c12 z1 c20 c21 c22 z2 c30 c31 c32 z3 c40 c41 c42 z4
        obtain ⟨c00, c01, c02, z0, c10, c11, c12, z1, c20, c21, c22, z2, c30, c31, c32, z3, c40, c41, c42, z4, c50, c51, c52, z5, hbl⟩ := Lay.op (HFw119.out)
        clear hbl
        obtain ⟨e1, e1'⟩ := mul_bdx (a := b) (b := c) (m := 1000) (k := 1000) (by omega) (by omega) (by omega) (by omega)
        obtain ⟨e2, e2'⟩ := mul_bdx (a := a) (b := b) (m := 1000) (k := 1000) (by omega) (by omega) (by omega) (by omega)
        obtain ⟨e3, e3'⟩ := mul_bdx (a := G * 2) (b := D) (m := 2000000000) (k := 2000) (by omega) (by omega) (by omega) (by omega)
        obtain ⟨e4, e4'⟩ := mul_bdx (a := H) (b := a) (m := 4000) (k := 1000) (by omega) (by omega) (by omega) (by omega)
        obtain ⟨e6, e6'⟩ := mul_bdx (a := a) (b := Y) (m := 1000) (k := 2000) (by omega) (by omega) (by omega) (by omega)
        have t1 : 0 ≤ N.tdiv D := Int.tdiv_nonneg (by omega) (by omega)
        have t2 : N.tdiv D ≤ N := Int.tdiv_le_self _ (by omega)
        have hD0 : ¬ D = 0 := by omega
        have w1_ : IntKind.i64.wrap (b * c) = b * c := IntWalk.i64_in _ ⟨by omega, by omega⟩
        have w2_ : IntKind.i64.wrap (a * b) = a * b := IntWalk.i64_in _ ⟨by omega, by omega⟩
        have w3_ : IntKind.i64.wrap (G * 2) = G * 2 := IntWalk.i64_in _ ⟨by omega, by omega⟩
        have w4_ : IntKind.i64.wrap (G * 2 * D) = G * 2 * D := IntWalk.i64_in _ ⟨by omega, by omega⟩
        have w5_ : IntKind.i64.wrap (H * a) = H * a := IntWalk.i64_in _ ⟨by omega, by omega⟩
        have w6_ : IntKind.i64.wrap (H * a * N) = G * 2 * D := by rw [← EG.out]; exact w4_
        have w7_ : IntKind.i64.wrap (M + X) = M + X := IntWalk.i64_in _ ⟨by omega, by omega⟩
        have w8_ : IntKind.i64.wrap (a * Y) = M + X := by rw [← EM.out]; exact w7_
        have w9_ : IntKind.i64.wrap (N.tdiv D) = N.tdiv D := IntWalk.i64_in _ ⟨by omega, by omega⟩
        clear e1 e1' e2 e2' e3 e3' e4 e4' e6 e6' t1 t2
        go_wp2_with fail
        refine ((HI1 _).out).mono ?_
        rintro e w' ⟨rfl, nA, rfl⟩
        go_wp2_with fail
        refine ((HI2 _).out).mono ?_
        rintro e w' ⟨rfl, nB, rfl⟩
        go_wp2_with fail
        refine ((HJ1 _).out).mono ?_
        rintro e w' ⟨rfl, nC, rfl⟩
        go_wp2_with fail
        refine ((HJ2 _).out).mono ?_
        rintro e w' ⟨rfl, nD, rfl⟩
        go_wp2_with fail
        refine wp_cond_f ?_ ?_
        · go_simp
        clear w0_ w1_ w2_ w3_ w4_ w5_ w6_ w7_ w8_ w9_ hD0 HI1 HI2 HJ1 HJ2 HX1 HX2 HX3 EG EM
        go_upto_region 24 with fail
        refine reframe fun T9 hT => ?_
        have hs9 : T9.size = 702 := by subst hT; simp [hs8]
        have q9_9 : At T9 9 (.pointer (some ⟨w.heap.size, 0, none⟩)) := by subst hT; exact (by first | (simp only [At, ↓Array.getElem?_setIfInBounds_ne, ne_eq, Nat.reduceEqDiff, not_false_eq_true, q9_8]; done) | simp [At, hs8, f9_8, f2_8, f3_8, f4_8, f5_8, f6_8, f8_8, f10_8, f16_8, f19_8, f20_8, f25_8, f26_8, f31_8, f32_8, f37_8, f38_8, f43_8, f55_8, f56_8, f57_8, f58_8, f59_8, f60_8, f61_8, f62_8, f63_8])
        have f9_9 := fun hh => getq q9_9 hh
        have q2_9 : At T9 2 (.bool rt) := by subst hT; exact (by first | (simp only [At, ↓Array.getElem?_setIfInBounds_ne, ne_eq, Nat.reduceEqDiff, not_false_eq_true, q2_8]; done) | simp [At, hs8, f9_8, f2_8, f3_8, f4_8, f5_8, f6_8, f8_8, f10_8, f16_8, f19_8, f20_8, f25_8, f26_8, f31_8, f32_8, f37_8, f38_8, f43_8, f55_8, f56_8, f57_8, f58_8, f59_8, f60_8, f61_8, f62_8, f63_8])
        have f2_9 := fun hh => getq q2_9 hh
        have q3_9 : At T9 3 (.int .i64 p) := by subst hT; exact (by first | (simp only [At, ↓Array.getElem?_setIfInBounds_ne, ne_eq, Nat.reduceEqDiff, not_false_eq_true, q3_8]; done) | simp [At, hs8, f9_8, f2_8, f3_8, f4_8, f5_8, f6_8, f8_8, f10_8, f16_8, f19_8, f20_8, f25_8, f26_8, f31_8, f32_8, f37_8, f38_8, f43_8, f55_8, f56_8, f57_8, f58_8, f59_8, f60_8, f61_8, f62_8, f63_8])
        have f3_9 := fun hh => getq q3_9 hh
        have q4_9 : At T9 4 (.int .i64 h) := by subst hT; exact (by first | (simp only [At, ↓Array.getElem?_setIfInBounds_ne, ne_eq, Nat.reduceEqDiff, not_false_eq_true, q4_8]; done) | simp [At, hs8, f9_8, f2_8, f3_8, f4_8, f5_8, f6_8, f8_8, f10_8, f16_8, f19_8, f20_8, f25_8, f26_8, f31_8, f32_8, f37_8, f38_8, f43_8, f55_8, f56_8, f57_8, f58_8, f59_8, f60_8, f61_8, f62_8, f63_8])
        have f4_9 := fun hh => getq q4_9 hh
        have q5_9 : At T9 5 (.int .i64 n) := by subst hT; exact (by first | (simp only [At, ↓Array.getElem?_setIfInBounds_ne, ne_eq, Nat.reduceEqDiff, not_false_eq_true, q5_8]; done) | simp [At, hs8, f9_8, f2_8, f3_8, f4_8, f5_8, f6_8, f8_8, f10_8, f16_8, f19_8, f20_8, f25_8, f26_8, f31_8, f32_8, f37_8, f38_8, f43_8, f55_8, f56_8, f57_8, f58_8, f59_8, f60_8, f61_8, f62_8, f63_8])
        have f5_9 := fun hh => getq q5_9 hh
        have q6_9 : At T9 6 (.int .i64 k) := by subst hT; exact (by first | (simp only [At, ↓Array.getElem?_setIfInBounds_ne, ne_eq, Nat.reduceEqDiff, not_false_eq_true, q6_8]; done) | simp [At, hs8, f9_8, f2_8, f3_8, f4_8, f5_8, f6_8, f8_8, f10_8, f16_8, f19_8, f20_8, f25_8, f26_8, f31_8, f32_8, f37_8, f38_8, f43_8, f55_8, f56_8, f57_8, f58_8, f59_8, f60_8, f61_8, f62_8, f63_8])
        have f6_9 := fun hh => getq q6_9 hh
        have q8_9 : At T9 8 (.int .i64 v) := by subst hT; exact (by first | (simp only [At, ↓Array.getElem?_setIfInBounds_ne, ne_eq, Nat.reduceEqDiff, not_false_eq_true, q8_8]; done) | simp [At, hs8, f9_8, f2_8, f3_8, f4_8, f5_8, f6_8, f8_8, f10_8, f16_8, f19_8, f20_8, f25_8, f26_8, f31_8, f32_8, f37_8, f38_8, f43_8, f55_8, f56_8, f57_8, f58_8, f59_8, f60_8, f61_8, f62_8, f63_8])
        have f8_9 := fun hh => getq q8_9 hh
        have q10_9 : At T9 10 (.pointer (some ⟨w.heap.size + 1, 0, none⟩)) := by subst hT; exact (by first | (simp only [At, ↓Array.getElem?_setIfInBounds_ne, ne_eq, Nat.reduceEqDiff, not_false_eq_true, q10_8]; done) | simp [At, hs8, f9_8, f2_8, f3_8, f4_8, f5_8, f6_8, f8_8, f10_8, f16_8, f19_8, f20_8, f25_8, f26_8, f31_8, f32_8, f37_8, f38_8, f43_8, f55_8, f56_8, f57_8, f58_8, f59_8, f60_8, f61_8, f62_8, f63_8])
        have f10_9 := fun hh => getq q10_9 hh
        have q16_9 : At T9 16 (.pointer (some ⟨w.heap.size + 1 + 1, 0, none⟩)) := by subst hT; exact (by first | (simp only [At, ↓Array.getElem?_setIfInBounds_ne, ne_eq, Nat.reduceEqDiff, not_false_eq_true, q16_8]; done) | simp [At, hs8, f9_8, f2_8, f3_8, f4_8, f5_8, f6_8, f8_8, f10_8, f16_8, f19_8, f20_8, f25_8, f26_8, f31_8, f32_8, f37_8, f38_8, f43_8, f55_8, f56_8, f57_8, f58_8, f59_8, f60_8, f61_8, f62_8, f63_8])
        have f16_9 := fun hh => getq q16_9 hh
        have q19_9 : At T9 19 (.int .i64 N) := by subst hT; exact (by first | (simp only [At, ↓Array.getElem?_setIfInBounds_ne, ne_eq, Nat.reduceEqDiff, not_false_eq_true, q19_8]; done) | simp [At, hs8, f9_8, f2_8, f3_8, f4_8, f5_8, f6_8, f8_8, f10_8, f16_8, f19_8, f20_8, f25_8, f26_8, f31_8, f32_8, f37_8, f38_8, f43_8, f55_8, f56_8, f57_8, f58_8, f59_8, f60_8, f61_8, f62_8, f63_8])
        have f19_9 := fun hh => getq q19_9 hh
        have q20_9 : At T9 20 (.int .i64 D) := by subst hT; exact (by first | (simp only [At, ↓Array.getElem?_setIfInBounds_ne, ne_eq, Nat.reduceEqDiff, not_false_eq_true, q20_8]; done) | simp [At, hs8, f9_8, f2_8, f3_8, f4_8, f5_8, f6_8, f8_8, f10_8, f16_8, f19_8, f20_8, f25_8, f26_8, f31_8, f32_8, f37_8, f38_8, f43_8, f55_8, f56_8, f57_8, f58_8, f59_8, f60_8, f61_8, f62_8, f63_8])
        have f20_9 := fun hh => getq q20_9 hh
        have q31_9 : At T9 31 (.int .i64 G) := by subst hT; exact (by first | (simp only [At, ↓Array.getElem?_setIfInBounds_ne, ne_eq, Nat.reduceEqDiff, not_false_eq_true, q31_8]; done) | simp [At, hs8, f9_8, f2_8, f3_8, f4_8, f5_8, f6_8, f8_8, f10_8, f16_8, f19_8, f20_8, f25_8, f26_8, f31_8, f32_8, f37_8, f38_8, f43_8, f55_8, f56_8, f57_8, f58_8, f59_8, f60_8, f61_8, f62_8, f63_8])
        have f31_9 := fun hh => getq q31_9 hh
        have q32_9 : At T9 32 (.int .i64 H) := by subst hT; exact (by first | (simp only [At, ↓Array.getElem?_setIfInBounds_ne, ne_eq, Nat.reduceEqDiff, not_false_eq_true, q32_8]; done) | simp [At, hs8, f9_8, f2_8, f3_8, f4_8, f5_8, f6_8, f8_8, f10_8, f16_8, f19_8, f20_8, f25_8, f26_8, f31_8, f32_8, f37_8, f38_8, f43_8, f55_8, f56_8, f57_8, f58_8, f59_8, f60_8, f61_8, f62_8, f63_8])
        have f32_9 := fun hh => getq q32_9 hh
        have q37_9 : At T9 37 (.int .i64 U) := by subst hT; exact (by first | (simp only [At, ↓Array.getElem?_setIfInBounds_ne, ne_eq, Nat.reduceEqDiff, not_false_eq_true, q37_8]; done) | simp [At, hs8, f9_8, f2_8, f3_8, f4_8, f5_8, f6_8, f8_8, f10_8, f16_8, f19_8, f20_8, f25_8, f26_8, f31_8, f32_8, f37_8, f38_8, f43_8, f55_8, f56_8, f57_8, f58_8, f59_8, f60_8, f61_8, f62_8, f63_8])
        have f37_9 := fun hh => getq q37_9 hh
        have q38_9 : At T9 38 (.int .i64 V) := by subst hT; exact (by first | (simp only [At, ↓Array.getElem?_setIfInBounds_ne, ne_eq, Nat.reduceEqDiff, not_false_eq_true, q38_8]; done) | simp [At, hs8, f9_8, f2_8, f3_8, f4_8, f5_8, f6_8, f8_8, f10_8, f16_8, f19_8, f20_8, f25_8, f26_8, f31_8, f32_8, f37_8, f38_8, f43_8, f55_8, f56_8, f57_8, f58_8, f59_8, f60_8, f61_8, f62_8, f63_8])
        have f38_9 := fun hh => getq q38_9 hh
        have q55_9 : At T9 55 (.int .i64 (b + c)) := by subst hT; exact (by first | (simp only [At, ↓Array.getElem?_setIfInBounds_ne, ne_eq, Nat.reduceEqDiff, not_false_eq_true, q55_8]; done) | simp [At, hs8, f9_8, f2_8, f3_8, f4_8, f5_8, f6_8, f8_8, f10_8, f16_8, f19_8, f20_8, f25_8, f26_8, f31_8, f32_8, f37_8, f38_8, f43_8, f55_8, f56_8, f57_8, f58_8, f59_8, f60_8, f61_8, f62_8, f63_8])
        have f55_9 := fun hh => getq q55_9 hh
        clear hT f63_8 f62_8 f61_8 f60_8 f59_8 f58_8 f57_8 f56_8 f55_8 f43_8 f38_8 f37_8 f32_8 f31_8 f26_8 f25_8 f20_8 f19_8 f16_8 f10_8 f8_8 f6_8 f5_8 f4_8 f3_8 f2_8 f9_8 hs8 q9_8 q2_8 q3_8 q4_8 q5_8 q6_8 q8_8 q10_8 q16_8 q19_8 q20_8 q25_8 q26_8 q31_8 q32_8 q37_8 q38_8 q43_8 q55_8 q56_8 q57_8 q58_8 q59_8 q60_8 q61_8 q62_8 q63_8
        obtain ⟨e1, e1'⟩ := mul_bdx (a := U) (b := H) (m := 4000000000) (k := 4000) (by omega) (by omega) (by omega) (by omega)
        obtain ⟨e2, e2'⟩ := mul_bdx (a := G) (b := V) (m := 1000000000) (k := 4000) (by omega) (by omega) (by omega) (by omega)
        obtain ⟨e3, e3'⟩ := mul_bdx (a := a) (b := b + c) (m := 1000) (k := 2000) (by omega) (by omega) (by omega) (by omega)
        obtain ⟨e4, e4'⟩ := mul_bdx (a := a * (b + c)) (b := V) (m := 2000000) (k := 4000) (by omega) (by omega) (by omega) (by omega)
        have w1_ : IntKind.i64.wrap (U * H) = U * H := IntWalk.i64_in _ ⟨by omega, by omega⟩
        have w2_ : IntKind.i64.wrap (U * H * 2) = U * H * 2 := IntWalk.i64_in _ ⟨by omega, by omega⟩
        have w3_ : IntKind.i64.wrap (G * V) = G * V := IntWalk.i64_in _ ⟨by omega, by omega⟩
        have w4_ : IntKind.i64.wrap (G * V * 2) = G * V * 2 := IntWalk.i64_in _ ⟨by omega, by omega⟩
        have w5_ : IntKind.i64.wrap (U * H * 2 + G * V * 2) = U * H * 2 + G * V * 2 := IntWalk.i64_in _ ⟨by omega, by omega⟩
        have w6_ : IntKind.i64.wrap (a * (b + c)) = a * (b + c) := IntWalk.i64_in _ ⟨by omega, by omega⟩
        have w7_ : IntKind.i64.wrap (a * (b + c) * V) = a * (b + c) * V := IntWalk.i64_in _ ⟨by omega, by omega⟩
        have w8_ : IntKind.i64.wrap (a * (b + c) * V * H) = U * H * 2 + G * V * 2 := by rw [← EU.out]; exact w5_
        clear e1 e1' e2 e2' e3 e3' e4 e4'
        go_wp2_with fail
        refine wp_cond_f ?_ ?_
        · go_simp
        clear w1_ w2_ w3_ w4_ w5_ w6_ w7_ w8_ EU
        go_upto_region 26 with fail
        refine reframe fun T10 hT => ?_
        have hs10 : T10.size = 702 := by subst hT; simp [hs9]
        have q9_10 : At T10 9 (.pointer (some ⟨w.heap.size, 0, none⟩)) := by subst hT; exact (by first | (simp only [At, ↓Array.getElem?_setIfInBounds_ne, ne_eq, Nat.reduceEqDiff, not_false_eq_true, q9_9]; done) | simp [At, hs9, f9_9, f2_9, f3_9, f4_9, f5_9, f6_9, f8_9, f10_9, f16_9, f19_9, f20_9, f31_9, f32_9, f37_9, f38_9, f55_9])
        have f9_10 := fun hh => getq q9_10 hh
        have q2_10 : At T10 2 (.bool rt) := by subst hT; exact (by first | (simp only [At, ↓Array.getElem?_setIfInBounds_ne, ne_eq, Nat.reduceEqDiff, not_false_eq_true, q2_9]; done) | simp [At, hs9, f9_9, f2_9, f3_9, f4_9, f5_9, f6_9, f8_9, f10_9, f16_9, f19_9, f20_9, f31_9, f32_9, f37_9, f38_9, f55_9])
        have f2_10 := fun hh => getq q2_10 hh
        have q3_10 : At T10 3 (.int .i64 p) := by subst hT; exact (by first | (simp only [At, ↓Array.getElem?_setIfInBounds_ne, ne_eq, Nat.reduceEqDiff, not_false_eq_true, q3_9]; done) | simp [At, hs9, f9_9, f2_9, f3_9, f4_9, f5_9, f6_9, f8_9, f10_9, f16_9, f19_9, f20_9, f31_9, f32_9, f37_9, f38_9, f55_9])
        have f3_10 := fun hh => getq q3_10 hh
        have q4_10 : At T10 4 (.int .i64 h) := by subst hT; exact (by first | (simp only [At, ↓Array.getElem?_setIfInBounds_ne, ne_eq, Nat.reduceEqDiff, not_false_eq_true, q4_9]; done) | simp [At, hs9, f9_9, f2_9, f3_9, f4_9, f5_9, f6_9, f8_9, f10_9, f16_9, f19_9, f20_9, f31_9, f32_9, f37_9, f38_9, f55_9])
        have f4_10 := fun hh => getq q4_10 hh
        have q5_10 : At T10 5 (.int .i64 n) := by subst hT; exact (by first | (simp only [At, ↓Array.getElem?_setIfInBounds_ne, ne_eq, Nat.reduceEqDiff, not_false_eq_true, q5_9]; done) | simp [At, hs9, f9_9, f2_9, f3_9, f4_9, f5_9, f6_9, f8_9, f10_9, f16_9, f19_9, f20_9, f31_9, f32_9, f37_9, f38_9, f55_9])
        have f5_10 := fun hh => getq q5_10 hh
        have q6_10 : At T10 6 (.int .i64 k) := by subst hT; exact (by first | (simp only [At, ↓Array.getElem?_setIfInBounds_ne, ne_eq, Nat.reduceEqDiff, not_false_eq_true, q6_9]; done) | simp [At, hs9, f9_9, f2_9, f3_9, f4_9, f5_9, f6_9, f8_9, f10_9, f16_9, f19_9, f20_9, f31_9, f32_9, f37_9, f38_9, f55_9])
        have f6_10 := fun hh => getq q6_10 hh
        have q8_10 : At T10 8 (.int .i64 v) := by subst hT; exact (by first | (simp only [At, ↓Array.getElem?_setIfInBounds_ne, ne_eq, Nat.reduceEqDiff, not_false_eq_true, q8_9]; done) | simp [At, hs9, f9_9, f2_9, f3_9, f4_9, f5_9, f6_9, f8_9, f10_9, f16_9, f19_9, f20_9, f31_9, f32_9, f37_9, f38_9, f55_9])
        have f8_10 := fun hh => getq q8_10 hh
        have q10_10 : At T10 10 (.pointer (some ⟨w.heap.size + 1, 0, none⟩)) := by subst hT; exact (by first | (simp only [At, ↓Array.getElem?_setIfInBounds_ne, ne_eq, Nat.reduceEqDiff, not_false_eq_true, q10_9]; done) | simp [At, hs9, f9_9, f2_9, f3_9, f4_9, f5_9, f6_9, f8_9, f10_9, f16_9, f19_9, f20_9, f31_9, f32_9, f37_9, f38_9, f55_9])
        have f10_10 := fun hh => getq q10_10 hh
        have q16_10 : At T10 16 (.pointer (some ⟨w.heap.size + 1 + 1, 0, none⟩)) := by subst hT; exact (by first | (simp only [At, ↓Array.getElem?_setIfInBounds_ne, ne_eq, Nat.reduceEqDiff, not_false_eq_true, q16_9]; done) | simp [At, hs9, f9_9, f2_9, f3_9, f4_9, f5_9, f6_9, f8_9, f10_9, f16_9, f19_9, f20_9, f31_9, f32_9, f37_9, f38_9, f55_9])
        have f16_10 := fun hh => getq q16_10 hh
        have q19_10 : At T10 19 (.int .i64 N) := by subst hT; exact (by first | (simp only [At, ↓Array.getElem?_setIfInBounds_ne, ne_eq, Nat.reduceEqDiff, not_false_eq_true, q19_9]; done) | simp [At, hs9, f9_9, f2_9, f3_9, f4_9, f5_9, f6_9, f8_9, f10_9, f16_9, f19_9, f20_9, f31_9, f32_9, f37_9, f38_9, f55_9])
        have f19_10 := fun hh => getq q19_10 hh
        have q20_10 : At T10 20 (.int .i64 D) := by subst hT; exact (by first | (simp only [At, ↓Array.getElem?_setIfInBounds_ne, ne_eq, Nat.reduceEqDiff, not_false_eq_true, q20_9]; done) | simp [At, hs9, f9_9, f2_9, f3_9, f4_9, f5_9, f6_9, f8_9, f10_9, f16_9, f19_9, f20_9, f31_9, f32_9, f37_9, f38_9, f55_9])
        have f20_10 := fun hh => getq q20_10 hh
        clear hT f55_9 f38_9 f37_9 f32_9 f31_9 f20_9 f19_9 f16_9 f10_9 f8_9 f6_9 f5_9 f4_9 f3_9 f2_9 f9_9 hs9 q9_9 q2_9 q3_9 q4_9 q5_9 q6_9 q8_9 q10_9 q16_9 q19_9 q20_9 q31_9 q32_9 q37_9 q38_9 q55_9
        by_cases hN : N ≤ 1000
        · by_cases hD : D ≤ 1000
          · have HO := HO hN hD
            go_wp2_with fail
            refine wp_cond_t ?_ ?_
            · go_simp
            go_wp2_with fail
            refine ((HO _).out).mono ?_
            rintro e w120 ⟨rfl, hb_⟩
            have HFw120 := Lib.hid (Lay.after (w := w) (B := [(w118.heap.size, a, b, c), (w114.heap.size, a, c, b), (w113.heap.size, a, c, b), (w.heap.size, a, b, c), (w.heap.size + 1, ua, ub, uc), (w.heap.size + 1 + 1, za, zb, zc)]) (Lay.after (HFw119.out) (by repeat (first | exact Below.refl _ _ | refine bl_alloc ?_ _ | refine bl_drewN ?_ _ | refine bl_set ?_ (by first | omega | (simp; done) | (simp; omega)) _))) hb_)
            clear hb_ c00 c01 c02 z0 c10 c11 c12 z1 c20 c21 c22 z2 c30 c31 c32 z3 c40 c41 c42 z4 c50 c51 c52 z5
            obtain ⟨c00, c01, c02, z0, c10, c11, c12, z1, c20, c21, c22, z2, c30, c31, c32, z3, c40, c41, c42, z4, c50, c51, c52, z5, hbl⟩ := Lay.op (HFw120.out)
            clear hbl
            go_wp2_with fail
            refine wp_cond_f ?_ ?_
            · go_simp
            go_wp2_with fail
            refine Met.intro (hJ _ _ ⟨_, rfl, by simp [hs10], by first | (simp only [At, ↓Array.getElem?_setIfInBounds_ne, ne_eq, Nat.reduceEqDiff, not_false_eq_true, q2_10]; done) | simp [At, hs10, f9_10, f2_10, f3_10, f4_10, f5_10, f6_10, f8_10, f10_10, f16_10, f19_10, f20_10], by first | (simp only [At, ↓Array.getElem?_setIfInBounds_ne, ne_eq, Nat.reduceEqDiff, not_false_eq_true, q3_10]; done) | simp [At, hs10, f9_10, f2_10, f3_10, f4_10, f5_10, f6_10, f8_10, f10_10, f16_10, f19_10, f20_10], by first | (simp only [At, ↓Array.getElem?_setIfInBounds_ne, ne_eq, Nat.reduceEqDiff, not_false_eq_true, q4_10]; done) | simp [At, hs10, f9_10, f2_10, f3_10, f4_10, f5_10, f6_10, f8_10, f10_10, f16_10, f19_10, f20_10], by first | (simp only [At, ↓Array.getElem?_setIfInBounds_ne, ne_eq, Nat.reduceEqDiff, not_false_eq_true, q5_10]; done) | simp [At, hs10, f9_10, f2_10, f3_10, f4_10, f5_10, f6_10, f8_10, f10_10, f16_10, f19_10, f20_10], by first | (simp only [At, ↓Array.getElem?_setIfInBounds_ne, ne_eq, Nat.reduceEqDiff, not_false_eq_true, q6_10]; done) | simp [At, hs10, f9_10, f2_10, f3_10, f4_10, f5_10, f6_10, f8_10, f10_10, f16_10, f19_10, f20_10], by first | (simp only [At, ↓Array.getElem?_setIfInBounds_ne, ne_eq, Nat.reduceEqDiff, not_false_eq_true, q8_10]; done) | simp [At, hs10, f9_10, f2_10, f3_10, f4_10, f5_10, f6_10, f8_10, f10_10, f16_10, f19_10, f20_10], by first | (simp only [At, ↓Array.getElem?_setIfInBounds_ne, ne_eq, Nat.reduceEqDiff, not_false_eq_true, q10_10]; done) | simp [At, hs10, f9_10, f2_10, f3_10, f4_10, f5_10, f6_10, f8_10, f10_10, f16_10, f19_10, f20_10], by first | (simp only [At, ↓Array.getElem?_setIfInBounds_ne, ne_eq, Nat.reduceEqDiff, not_false_eq_true, q16_10]; done) | simp [At, hs10, f9_10, f2_10, f3_10, f4_10, f5_10, f6_10, f8_10, f10_10, f16_10, f19_10, f20_10], Lay.tl (Lay.tl (Lay.tl (Lay.tl (HFw120.out))))⟩)
          · skip
            go_wp2_with fail
            refine wp_cond_f ?_ ?_
            · go_simp
            go_wp2_with fail
            refine Met.intro (hJ _ _ ⟨_, rfl, by simp [hs10], by first | (simp only [At, ↓Array.getElem?_setIfInBounds_ne, ne_eq, Nat.reduceEqDiff, not_false_eq_true, q2_10]; done) | simp [At, hs10, f9_10, f2_10, f3_10, f4_10, f5_10, f6_10, f8_10, f10_10, f16_10, f19_10, f20_10], by first | (simp only [At, ↓Array.getElem?_setIfInBounds_ne, ne_eq, Nat.reduceEqDiff, not_false_eq_true, q3_10]; done) | simp [At, hs10, f9_10, f2_10, f3_10, f4_10, f5_10, f6_10, f8_10, f10_10, f16_10, f19_10, f20_10], by first | (simp only [At, ↓Array.getElem?_setIfInBounds_ne, ne_eq, Nat.reduceEqDiff, not_false_eq_true, q4_10]; done) | simp [At, hs10, f9_10, f2_10, f3_10, f4_10, f5_10, f6_10, f8_10, f10_10, f16_10, f19_10, f20_10], by first | (simp only [At, ↓Array.getElem?_setIfInBounds_ne, ne_eq, Nat.reduceEqDiff, not_false_eq_true, q5_10]; done) | simp [At, hs10, f9_10, f2_10, f3_10, f4_10, f5_10, f6_10, f8_10, f10_10, f16_10, f19_10, f20_10], by first | (simp only [At, ↓Array.getElem?_setIfInBounds_ne, ne_eq, Nat.reduceEqDiff, not_false_eq_true, q6_10]; done) | simp [At, hs10, f9_10, f2_10, f3_10, f4_10, f5_10, f6_10, f8_10, f10_10, f16_10, f19_10, f20_10], by first | (simp only [At, ↓Array.getElem?_setIfInBounds_ne, ne_eq, Nat.reduceEqDiff, not_false_eq_true, q8_10]; done) | simp [At, hs10, f9_10, f2_10, f3_10, f4_10, f5_10, f6_10, f8_10, f10_10, f16_10, f19_10, f20_10], by first | (simp only [At, ↓Array.getElem?_setIfInBounds_ne, ne_eq, Nat.reduceEqDiff, not_false_eq_true, q10_10]; done) | simp [At, hs10, f9_10, f2_10, f3_10, f4_10, f5_10, f6_10, f8_10, f10_10, f16_10, f19_10, f20_10], by first | (simp only [At, ↓Array.getElem?_setIfInBounds_ne, ne_eq, Nat.reduceEqDiff, not_false_eq_true, q16_10]; done) | simp [At, hs10, f9_10, f2_10, f3_10, f4_10, f5_10, f6_10, f8_10, f10_10, f16_10, f19_10, f20_10], (by repeat (first | exact Lay.tl (Lay.tl (Lay.tl (Lay.tl (HFw119.out)))) | refine Lay.drewN ?_ _))⟩)
        · skip
          go_wp2_with fail
          refine wp_cond_f ?_ ?_
          · go_simp
          go_wp2_with fail
          refine Met.intro (hJ _ _ ⟨_, rfl, by simp [hs10], by first | (simp only [At, ↓Array.getElem?_setIfInBounds_ne, ne_eq, Nat.reduceEqDiff, not_false_eq_true, q2_10]; done) | simp [At, hs10, f9_10, f2_10, f3_10, f4_10, f5_10, f6_10, f8_10, f10_10, f16_10, f19_10, f20_10], by first | (simp only [At, ↓Array.getElem?_setIfInBounds_ne, ne_eq, Nat.reduceEqDiff, not_false_eq_true, q3_10]; done) | simp [At, hs10, f9_10, f2_10, f3_10, f4_10, f5_10, f6_10, f8_10, f10_10, f16_10, f19_10, f20_10], by first | (simp only [At, ↓Array.getElem?_setIfInBounds_ne, ne_eq, Nat.reduceEqDiff, not_false_eq_true, q4_10]; done) | simp [At, hs10, f9_10, f2_10, f3_10, f4_10, f5_10, f6_10, f8_10, f10_10, f16_10, f19_10, f20_10], by first | (simp only [At, ↓Array.getElem?_setIfInBounds_ne, ne_eq, Nat.reduceEqDiff, not_false_eq_true, q5_10]; done) | simp [At, hs10, f9_10, f2_10, f3_10, f4_10, f5_10, f6_10, f8_10, f10_10, f16_10, f19_10, f20_10], by first | (simp only [At, ↓Array.getElem?_setIfInBounds_ne, ne_eq, Nat.reduceEqDiff, not_false_eq_true, q6_10]; done) | simp [At, hs10, f9_10, f2_10, f3_10, f4_10, f5_10, f6_10, f8_10, f10_10, f16_10, f19_10, f20_10], by first | (simp only [At, ↓Array.getElem?_setIfInBounds_ne, ne_eq, Nat.reduceEqDiff, not_false_eq_true, q8_10]; done) | simp [At, hs10, f9_10, f2_10, f3_10, f4_10, f5_10, f6_10, f8_10, f10_10, f16_10, f19_10, f20_10], by first | (simp only [At, ↓Array.getElem?_setIfInBounds_ne, ne_eq, Nat.reduceEqDiff, not_false_eq_true, q10_10]; done) | simp [At, hs10, f9_10, f2_10, f3_10, f4_10, f5_10, f6_10, f8_10, f10_10, f16_10, f19_10, f20_10], by first | (simp only [At, ↓Array.getElem?_setIfInBounds_ne, ne_eq, Nat.reduceEqDiff, not_false_eq_true, q16_10]; done) | simp [At, hs10, f9_10, f2_10, f3_10, f4_10, f5_10, f6_10, f8_10, f10_10, f16_10, f19_10, f20_10], (by repeat (first | exact Lay.tl (Lay.tl (Lay.tl (Lay.tl (HFw119.out)))) | refine Lay.drewN ?_ _))⟩)
    case rest2 =>
      intro a' wc2 hR2
      obtain ⟨T11, rfl, hs11, q2_11, q3_11, q4_11, q5_11, q6_11, q8_11, q10_11, q16_11, hL_⟩ := hR2
      have f2_11 := fun hh => getq q2_11 hh
      have f3_11 := fun hh => getq q3_11 hh
      have f4_11 := fun hh => getq q4_11 hh
      have f5_11 := fun hh => getq q5_11 hh
      have f6_11 := fun hh => getq q6_11 hh
      have f8_11 := fun hh => getq q8_11 hh
      have f10_11 := fun hh => getq q10_11 hh
      have f16_11 := fun hh => getq q16_11 hh
      have HFwc2 := Lib.hid hL_
      clear hL_
      obtain ⟨c00, c01, c02, z0, c10, c11, c12, z1, hbl⟩ := Lay.op (HFwc2.out)
      clear hbl
      clear FA HTA HER HMX
      go_wp2_with fail
      refine ((HG1 _).out).mono ?_
      rintro e w121 ⟨rfl, hb_⟩
      have HFw121 := Lib.hid (Lay.after (w := w) (B := [(w.heap.size + 1, ua, ub, uc), (w.heap.size + 1 + 1, za, zb, zc)]) (Lay.after (HFwc2.out) (by repeat (first | exact Below.refl _ _ | refine bl_alloc ?_ _ | refine bl_drewN ?_ _ | refine bl_set ?_ (by first | omega | (simp; done) | (simp; omega)) _))) hb_)
      clear hb_ c00 c01 c02 z0 c10 c11 c12 z1
      obtain ⟨c00, c01, c02, z0, c10, c11, c12, z1, hbl⟩ := Lay.op (HFw121.out)
      clear hbl
      go_wp2_with fail
      refine ((HG2 _).out).mono ?_
      rintro e w122 ⟨rfl, hb_⟩
      have HFw122 := Lib.hid (Lay.after (w := w) (B := [(w.heap.size + 1, ua, ub, uc), (w.heap.size + 1 + 1, za, zb, zc)]) (Lay.after (HFw121.out) (by repeat (first | exact Below.refl _ _ | refine bl_alloc ?_ _ | refine bl_drewN ?_ _ | refine bl_set ?_ (by first | omega | (simp; done) | (simp; omega)) _))) hb_)
      clear hb_ c00 c01 c02 z0 c10 c11 c12 z1
      obtain ⟨c00, c01, c02, z0, c10, c11, c12, z1, hbl⟩ := Lay.op (HFw122.out)
      clear hbl
      go_wp2_with fail
      refine ((HH1 _).out).mono ?_
      rintro e w123 ⟨rfl, hb_⟩
      have HFw123 := Lib.hid (Lay.after (w := w) (B := [(w.heap.size + 1, ua, ub, uc), (w.heap.size + 1 + 1, za, zb, zc)]) (Lay.after (HFw122.out) (by repeat (first | exact Below.refl _ _ | refine bl_alloc ?_ _ | refine bl_drewN ?_ _ | refine bl_set ?_ (by first | omega | (simp; done) | (simp; omega)) _))) hb_)
      clear hb_ c00 c01 c02 z0 c10 c11 c12 z1
      obtain ⟨c00, c01, c02, z0, c10, c11, c12, z1, hbl⟩ := Lay.op (HFw123.out)
      clear hbl
      go_wp2_with fail
      refine ((HH2 _).out).mono ?_
      rintro e w124 ⟨rfl, hb_⟩
      have HFw124 := Lib.hid (Lay.after (w := w) (B := [(w.heap.size + 1, ua, ub, uc), (w.heap.size + 1 + 1, za, zb, zc)]) (Lay.after (HFw123.out) (by repeat (first | exact Below.refl _ _ | refine bl_alloc ?_ _ | refine bl_drewN ?_ _ | refine bl_set ?_ (by first | omega | (simp; done) | (simp; omega)) _))) hb_)
      clear hb_ c00 c01 c02 z0 c10 c11 c12 z1
      obtain ⟨c00, c01, c02, z0, c10, c11, c12, z1, hbl⟩ := Lay.op (HFw124.out)
      clear hbl
      go_upto_region 34 with fail
      refine reframe fun T12 hT => ?_
      have hs12 : T12.size = 702 := by subst hT; simp [hs11]
      have q2_12 : At T12 2 (.bool rt) := by subst hT; exact (by first | (simp only [At, ↓Array.getElem?_setIfInBounds_ne, ne_eq, Nat.reduceEqDiff, not_false_eq_true, q2_11]; done) | simp [At, hs11, f2_11, f3_11, f4_11, f5_11, f6_11, f8_11, f10_11, f16_11])
      have f2_12 := fun hh => getq q2_12 hh
      have q3_12 : At T12 3 (.int .i64 p) := by subst hT; exact (by first | (simp only [At, ↓Array.getElem?_setIfInBounds_ne, ne_eq, Nat.reduceEqDiff, not_false_eq_true, q3_11]; done) | simp [At, hs11, f2_11, f3_11, f4_11, f5_11, f6_11, f8_11, f10_11, f16_11])
      have f3_12 := fun hh => getq q3_12 hh
      have q4_12 : At T12 4 (.int .i64 h) := by subst hT; exact (by first | (simp only [At, ↓Array.getElem?_setIfInBounds_ne, ne_eq, Nat.reduceEqDiff, not_false_eq_true, q4_11]; done) | simp [At, hs11, f2_11, f3_11, f4_11, f5_11, f6_11, f8_11, f10_11, f16_11])
      have f4_12 := fun hh => getq q4_12 hh
      have q5_12 : At T12 5 (.int .i64 n) := by subst hT; exact (by first | (simp only [At, ↓Array.getElem?_setIfInBounds_ne, ne_eq, Nat.reduceEqDiff, not_false_eq_true, q5_11]; done) | simp [At, hs11, f2_11, f3_11, f4_11, f5_11, f6_11, f8_11, f10_11, f16_11])
      have f5_12 := fun hh => getq q5_12 hh
      have q6_12 : At T12 6 (.int .i64 k) := by subst hT; exact (by first | (simp only [At, ↓Array.getElem?_setIfInBounds_ne, ne_eq, Nat.reduceEqDiff, not_false_eq_true, q6_11]; done) | simp [At, hs11, f2_11, f3_11, f4_11, f5_11, f6_11, f8_11, f10_11, f16_11])
      have f6_12 := fun hh => getq q6_12 hh
      have q8_12 : At T12 8 (.int .i64 v) := by subst hT; exact (by first | (simp only [At, ↓Array.getElem?_setIfInBounds_ne, ne_eq, Nat.reduceEqDiff, not_false_eq_true, q8_11]; done) | simp [At, hs11, f2_11, f3_11, f4_11, f5_11, f6_11, f8_11, f10_11, f16_11])
      have f8_12 := fun hh => getq q8_12 hh
      have q10_12 : At T12 10 (.pointer (some ⟨w.heap.size + 1, 0, none⟩)) := by subst hT; exact (by first | (simp only [At, ↓Array.getElem?_setIfInBounds_ne, ne_eq, Nat.reduceEqDiff, not_false_eq_true, q10_11]; done) | simp [At, hs11, f2_11, f3_11, f4_11, f5_11, f6_11, f8_11, f10_11, f16_11])
      have f10_12 := fun hh => getq q10_12 hh
      have q16_12 : At T12 16 (.pointer (some ⟨w.heap.size + 1 + 1, 0, none⟩)) := by subst hT; exact (by first | (simp only [At, ↓Array.getElem?_setIfInBounds_ne, ne_eq, Nat.reduceEqDiff, not_false_eq_true, q16_11]; done) | simp [At, hs11, f2_11, f3_11, f4_11, f5_11, f6_11, f8_11, f10_11, f16_11])
      have f16_12 := fun hh => getq q16_12 hh
      have q67_12 : At T12 67 (.int .i64 R1) := by subst hT; exact (by first | (simp only [At, ↓Array.getElem?_setIfInBounds_ne, ne_eq, Nat.reduceEqDiff, not_false_eq_true]; done) | simp [At, hs11, f2_11, f3_11, f4_11, f5_11, f6_11, f8_11, f10_11, f16_11])
      have f67_12 := fun hh => getq q67_12 hh
      have q68_12 : At T12 68 (.int .i64 S1) := by subst hT; exact (by first | (simp only [At, ↓Array.getElem?_setIfInBounds_ne, ne_eq, Nat.reduceEqDiff, not_false_eq_true]; done) | simp [At, hs11, f2_11, f3_11, f4_11, f5_11, f6_11, f8_11, f10_11, f16_11])
      have f68_12 := fun hh => getq q68_12 hh
      have q69_12 : At T12 69 (.bool OB) := by subst hT; exact (by first | (simp only [At, ↓Array.getElem?_setIfInBounds_ne, ne_eq, Nat.reduceEqDiff, not_false_eq_true]; done) | simp [At, hs11, f2_11, f3_11, f4_11, f5_11, f6_11, f8_11, f10_11, f16_11])
      have f69_12 := fun hh => getq q69_12 hh
      have q70_12 : At T12 70 (.int .i64 R1) := by subst hT; exact (by first | (simp only [At, ↓Array.getElem?_setIfInBounds_ne, ne_eq, Nat.reduceEqDiff, not_false_eq_true]; done) | simp [At, hs11, f2_11, f3_11, f4_11, f5_11, f6_11, f8_11, f10_11, f16_11])
      have f70_12 := fun hh => getq q70_12 hh
      have q71_12 : At T12 71 (.int .i64 S1) := by subst hT; exact (by first | (simp only [At, ↓Array.getElem?_setIfInBounds_ne, ne_eq, Nat.reduceEqDiff, not_false_eq_true]; done) | simp [At, hs11, f2_11, f3_11, f4_11, f5_11, f6_11, f8_11, f10_11, f16_11])
      have f71_12 := fun hh => getq q71_12 hh
      have q72_12 : At T12 72 (.bool OB) := by subst hT; exact (by first | (simp only [At, ↓Array.getElem?_setIfInBounds_ne, ne_eq, Nat.reduceEqDiff, not_false_eq_true]; done) | simp [At, hs11, f2_11, f3_11, f4_11, f5_11, f6_11, f8_11, f10_11, f16_11])
      have f72_12 := fun hh => getq q72_12 hh
      have q73_12 : At T12 73 (.int .i64 X1) := by subst hT; exact (by first | (simp only [At, ↓Array.getElem?_setIfInBounds_ne, ne_eq, Nat.reduceEqDiff, not_false_eq_true]; done) | simp [At, hs11, f2_11, f3_11, f4_11, f5_11, f6_11, f8_11, f10_11, f16_11])
      have f73_12 := fun hh => getq q73_12 hh
      have q74_12 : At T12 74 (.int .i64 Y1) := by subst hT; exact (by first | (simp only [At, ↓Array.getElem?_setIfInBounds_ne, ne_eq, Nat.reduceEqDiff, not_false_eq_true]; done) | simp [At, hs11, f2_11, f3_11, f4_11, f5_11, f6_11, f8_11, f10_11, f16_11])
      have f74_12 := fun hh => getq q74_12 hh
      have q75_12 : At T12 75 (.bool OB) := by subst hT; exact (by first | (simp only [At, ↓Array.getElem?_setIfInBounds_ne, ne_eq, Nat.reduceEqDiff, not_false_eq_true]; done) | simp [At, hs11, f2_11, f3_11, f4_11, f5_11, f6_11, f8_11, f10_11, f16_11])
      have f75_12 := fun hh => getq q75_12 hh
      have q76_12 : At T12 76 (.int .i64 X1) := by subst hT; exact (by first | (simp only [At, ↓Array.getElem?_setIfInBounds_ne, ne_eq, Nat.reduceEqDiff, not_false_eq_true]; done) | simp [At, hs11, f2_11, f3_11, f4_11, f5_11, f6_11, f8_11, f10_11, f16_11])
      have f76_12 := fun hh => getq q76_12 hh
      have q77_12 : At T12 77 (.int .i64 Y1) := by subst hT; exact (by first | (simp only [At, ↓Array.getElem?_setIfInBounds_ne, ne_eq, Nat.reduceEqDiff, not_false_eq_true]; done) | simp [At, hs11, f2_11, f3_11, f4_11, f5_11, f6_11, f8_11, f10_11, f16_11])
      have f77_12 := fun hh => getq q77_12 hh
      have q78_12 : At T12 78 (.bool OB) := by subst hT; exact (by first | (simp only [At, ↓Array.getElem?_setIfInBounds_ne, ne_eq, Nat.reduceEqDiff, not_false_eq_true]; done) | simp [At, hs11, f2_11, f3_11, f4_11, f5_11, f6_11, f8_11, f10_11, f16_11])
      have f78_12 := fun hh => getq q78_12 hh
      clear hT f16_11 f10_11 f8_11 f6_11 f5_11 f4_11 f3_11 f2_11 hs11 q2_11 q3_11 q4_11 q5_11 q6_11 q8_11 q10_11 q16_11
      go_wp2_with fail
      refine ((HO1 _).out).mono ?_
      rintro e w125 ⟨rfl, hb_⟩
      have HFw125 := Lib.hid (Lay.after (w := w) (B := [(w.heap.size + 1, ua, ub, uc), (w.heap.size + 1 + 1, za, zb, zc)]) (Lay.after (HFw124.out) (by repeat (first | exact Below.refl _ _ | refine bl_alloc ?_ _ | refine bl_drewN ?_ _ | refine bl_set ?_ (by first | omega | (simp; done) | (simp; omega)) _))) hb_)
      clear hb_ c00 c01 c02 z0 c10 c11 c12 z1
      obtain ⟨c00, c01, c02, z0, c10, c11, c12, z1, hbl⟩ := Lay.op (HFw125.out)
      clear hbl
      go_wp2_with fail
      refine ((HO2 _).out).mono ?_
      rintro e w126 ⟨rfl, hb_⟩
      have HFw126 := Lib.hid (Lay.after (w := w) (B := [(w.heap.size + 1, ua, ub, uc), (w.heap.size + 1 + 1, za, zb, zc)]) (Lay.after (HFw125.out) (by repeat (first | exact Below.refl _ _ | refine bl_alloc ?_ _ | refine bl_drewN ?_ _ | refine bl_set ?_ (by first | omega | (simp; done) | (simp; omega)) _))) hb_)
      clear hb_ c00 c01 c02 z0 c10 c11 c12 z1
      obtain ⟨c00, c01, c02, z0, c10, c11, c12, z1, hbl⟩ := Lay.op (HFw126.out)
      clear hbl
      go_wp2_with fail
      refine ((HV1 _).out).mono ?_
      rintro e w127 ⟨rfl, hb_⟩
      have HFw127 := Lib.hid (Lay.after (w := w) (B := [(w.heap.size + 1, ua, ub, uc), (w.heap.size + 1 + 1, za, zb, zc)]) (Lay.after (HFw126.out) (by repeat (first | exact Below.refl _ _ | refine bl_alloc ?_ _ | refine bl_drewN ?_ _ | refine bl_set ?_ (by first | omega | (simp; done) | (simp; omega)) _))) hb_)
      clear hb_ c00 c01 c02 z0 c10 c11 c12 z1
      obtain ⟨c00, c01, c02, z0, c10, c11, c12, z1, hbl⟩ := Lay.op (HFw127.out)
      clear hbl
      go_wp2_with fail
      refine ((HV2 _).out).mono ?_
      rintro e w128 ⟨rfl, hb_⟩
      have HFw128 := Lib.hid (Lay.after (w := w) (B := [(w127.heap.size, n1, n2, n3), (w.heap.size + 1, ua, ub, uc), (w.heap.size + 1 + 1, za, zb, zc)]) (Lay.c (g := w127.heap.size) (x0 := n1) (x1 := n2) (x2 := n3) (by simp [go_sem]) (by simp [go_sem]) (by simp [go_sem]) (by first | (simp; done) | (simp; omega)) (Lay.after (HFw127.out) (by repeat (first | exact Below.refl _ _ | refine bl_alloc ?_ _ | refine bl_drewN ?_ _ | refine bl_set ?_ (by first | omega | (simp; done) | (simp; omega)) _)))) hb_)
      clear hb_ c00 c01 c02 z0 c10 c11 c12 z1
      obtain ⟨c00, c01, c02, z0, c10, c11, c12, z1, c20, c21, c22, z2, hbl⟩ := Lay.op (HFw128.out)
      clear hbl
      go_upto_region 38 with fail
      refine reframe fun T13 hT => ?_
      have hs13 : T13.size = 702 := by subst hT; simp [hs12]
      have q2_13 : At T13 2 (.bool rt) := by subst hT; exact (by first | (simp only [At, ↓Array.getElem?_setIfInBounds_ne, ne_eq, Nat.reduceEqDiff, not_false_eq_true, q2_12]; done) | simp [At, hs12, f2_12, f3_12, f4_12, f5_12, f6_12, f8_12, f10_12, f16_12, f67_12, f68_12, f69_12, f70_12, f71_12, f72_12, f73_12, f74_12, f75_12, f76_12, f77_12, f78_12])
      have f2_13 := fun hh => getq q2_13 hh
      have q3_13 : At T13 3 (.int .i64 p) := by subst hT; exact (by first | (simp only [At, ↓Array.getElem?_setIfInBounds_ne, ne_eq, Nat.reduceEqDiff, not_false_eq_true, q3_12]; done) | simp [At, hs12, f2_12, f3_12, f4_12, f5_12, f6_12, f8_12, f10_12, f16_12, f67_12, f68_12, f69_12, f70_12, f71_12, f72_12, f73_12, f74_12, f75_12, f76_12, f77_12, f78_12])
      have f3_13 := fun hh => getq q3_13 hh
      have q4_13 : At T13 4 (.int .i64 h) := by subst hT; exact (by first | (simp only [At, ↓Array.getElem?_setIfInBounds_ne, ne_eq, Nat.reduceEqDiff, not_false_eq_true, q4_12]; done) | simp [At, hs12, f2_12, f3_12, f4_12, f5_12, f6_12, f8_12, f10_12, f16_12, f67_12, f68_12, f69_12, f70_12, f71_12, f72_12, f73_12, f74_12, f75_12, f76_12, f77_12, f78_12])
      have f4_13 := fun hh => getq q4_13 hh
      have q5_13 : At T13 5 (.int .i64 n) := by subst hT; exact (by first | (simp only [At, ↓Array.getElem?_setIfInBounds_ne, ne_eq, Nat.reduceEqDiff, not_false_eq_true, q5_12]; done) | simp [At, hs12, f2_12, f3_12, f4_12, f5_12, f6_12, f8_12, f10_12, f16_12, f67_12, f68_12, f69_12, f70_12, f71_12, f72_12, f73_12, f74_12, f75_12, f76_12, f77_12, f78_12])
      have f5_13 := fun hh => getq q5_13 hh
      have q6_13 : At T13 6 (.int .i64 k) := by subst hT; exact (by first | (simp only [At, ↓Array.getElem?_setIfInBounds_ne, ne_eq, Nat.reduceEqDiff, not_false_eq_true, q6_12]; done) | simp [At, hs12, f2_12, f3_12, f4_12, f5_12, f6_12, f8_12, f10_12, f16_12, f67_12, f68_12, f69_12, f70_12, f71_12, f72_12, f73_12, f74_12, f75_12, f76_12, f77_12, f78_12])
      have f6_13 := fun hh => getq q6_13 hh
      have q8_13 : At T13 8 (.int .i64 v) := by subst hT; exact (by first | (simp only [At, ↓Array.getElem?_setIfInBounds_ne, ne_eq, Nat.reduceEqDiff, not_false_eq_true, q8_12]; done) | simp [At, hs12, f2_12, f3_12, f4_12, f5_12, f6_12, f8_12, f10_12, f16_12, f67_12, f68_12, f69_12, f70_12, f71_12, f72_12, f73_12, f74_12, f75_12, f76_12, f77_12, f78_12])
      have f8_13 := fun hh => getq q8_13 hh
      have q10_13 : At T13 10 (.pointer (some ⟨w.heap.size + 1, 0, none⟩)) := by subst hT; exact (by first | (simp only [At, ↓Array.getElem?_setIfInBounds_ne, ne_eq, Nat.reduceEqDiff, not_false_eq_true, q10_12]; done) | simp [At, hs12, f2_12, f3_12, f4_12, f5_12, f6_12, f8_12, f10_12, f16_12, f67_12, f68_12, f69_12, f70_12, f71_12, f72_12, f73_12, f74_12, f75_12, f76_12, f77_12, f78_12])
      have f10_13 := fun hh => getq q10_13 hh
      have q16_13 : At T13 16 (.pointer (some ⟨w.heap.size + 1 + 1, 0, none⟩)) := by subst hT; exact (by first | (simp only [At, ↓Array.getElem?_setIfInBounds_ne, ne_eq, Nat.reduceEqDiff, not_false_eq_true, q16_12]; done) | simp [At, hs12, f2_12, f3_12, f4_12, f5_12, f6_12, f8_12, f10_12, f16_12, f67_12, f68_12, f69_12, f70_12, f71_12, f72_12, f73_12, f74_12, f75_12, f76_12, f77_12, f78_12])
      have f16_13 := fun hh => getq q16_13 hh
      have q67_13 : At T13 67 (.int .i64 R1) := by subst hT; exact (by first | (simp only [At, ↓Array.getElem?_setIfInBounds_ne, ne_eq, Nat.reduceEqDiff, not_false_eq_true, q67_12]; done) | simp [At, hs12, f2_12, f3_12, f4_12, f5_12, f6_12, f8_12, f10_12, f16_12, f67_12, f68_12, f69_12, f70_12, f71_12, f72_12, f73_12, f74_12, f75_12, f76_12, f77_12, f78_12])
      have f67_13 := fun hh => getq q67_13 hh
      have q68_13 : At T13 68 (.int .i64 S1) := by subst hT; exact (by first | (simp only [At, ↓Array.getElem?_setIfInBounds_ne, ne_eq, Nat.reduceEqDiff, not_false_eq_true, q68_12]; done) | simp [At, hs12, f2_12, f3_12, f4_12, f5_12, f6_12, f8_12, f10_12, f16_12, f67_12, f68_12, f69_12, f70_12, f71_12, f72_12, f73_12, f74_12, f75_12, f76_12, f77_12, f78_12])
      have f68_13 := fun hh => getq q68_13 hh
      have q69_13 : At T13 69 (.bool OB) := by subst hT; exact (by first | (simp only [At, ↓Array.getElem?_setIfInBounds_ne, ne_eq, Nat.reduceEqDiff, not_false_eq_true, q69_12]; done) | simp [At, hs12, f2_12, f3_12, f4_12, f5_12, f6_12, f8_12, f10_12, f16_12, f67_12, f68_12, f69_12, f70_12, f71_12, f72_12, f73_12, f74_12, f75_12, f76_12, f77_12, f78_12])
      have f69_13 := fun hh => getq q69_13 hh
      have q70_13 : At T13 70 (.int .i64 R1) := by subst hT; exact (by first | (simp only [At, ↓Array.getElem?_setIfInBounds_ne, ne_eq, Nat.reduceEqDiff, not_false_eq_true, q70_12]; done) | simp [At, hs12, f2_12, f3_12, f4_12, f5_12, f6_12, f8_12, f10_12, f16_12, f67_12, f68_12, f69_12, f70_12, f71_12, f72_12, f73_12, f74_12, f75_12, f76_12, f77_12, f78_12])
      have f70_13 := fun hh => getq q70_13 hh
      have q71_13 : At T13 71 (.int .i64 S1) := by subst hT; exact (by first | (simp only [At, ↓Array.getElem?_setIfInBounds_ne, ne_eq, Nat.reduceEqDiff, not_false_eq_true, q71_12]; done) | simp [At, hs12, f2_12, f3_12, f4_12, f5_12, f6_12, f8_12, f10_12, f16_12, f67_12, f68_12, f69_12, f70_12, f71_12, f72_12, f73_12, f74_12, f75_12, f76_12, f77_12, f78_12])
      have f71_13 := fun hh => getq q71_13 hh
      have q72_13 : At T13 72 (.bool OB) := by subst hT; exact (by first | (simp only [At, ↓Array.getElem?_setIfInBounds_ne, ne_eq, Nat.reduceEqDiff, not_false_eq_true, q72_12]; done) | simp [At, hs12, f2_12, f3_12, f4_12, f5_12, f6_12, f8_12, f10_12, f16_12, f67_12, f68_12, f69_12, f70_12, f71_12, f72_12, f73_12, f74_12, f75_12, f76_12, f77_12, f78_12])
      have f72_13 := fun hh => getq q72_13 hh
      have q73_13 : At T13 73 (.int .i64 X1) := by subst hT; exact (by first | (simp only [At, ↓Array.getElem?_setIfInBounds_ne, ne_eq, Nat.reduceEqDiff, not_false_eq_true, q73_12]; done) | simp [At, hs12, f2_12, f3_12, f4_12, f5_12, f6_12, f8_12, f10_12, f16_12, f67_12, f68_12, f69_12, f70_12, f71_12, f72_12, f73_12, f74_12, f75_12, f76_12, f77_12, f78_12])
      have f73_13 := fun hh => getq q73_13 hh
      have q74_13 : At T13 74 (.int .i64 Y1) := by subst hT; exact (by first | (simp only [At, ↓Array.getElem?_setIfInBounds_ne, ne_eq, Nat.reduceEqDiff, not_false_eq_true, q74_12]; done) | simp [At, hs12, f2_12, f3_12, f4_12, f5_12, f6_12, f8_12, f10_12, f16_12, f67_12, f68_12, f69_12, f70_12, f71_12, f72_12, f73_12, f74_12, f75_12, f76_12, f77_12, f78_12])
      have f74_13 := fun hh => getq q74_13 hh
      have q75_13 : At T13 75 (.bool OB) := by subst hT; exact (by first | (simp only [At, ↓Array.getElem?_setIfInBounds_ne, ne_eq, Nat.reduceEqDiff, not_false_eq_true, q75_12]; done) | simp [At, hs12, f2_12, f3_12, f4_12, f5_12, f6_12, f8_12, f10_12, f16_12, f67_12, f68_12, f69_12, f70_12, f71_12, f72_12, f73_12, f74_12, f75_12, f76_12, f77_12, f78_12])
      have f75_13 := fun hh => getq q75_13 hh
      have q76_13 : At T13 76 (.int .i64 X1) := by subst hT; exact (by first | (simp only [At, ↓Array.getElem?_setIfInBounds_ne, ne_eq, Nat.reduceEqDiff, not_false_eq_true, q76_12]; done) | simp [At, hs12, f2_12, f3_12, f4_12, f5_12, f6_12, f8_12, f10_12, f16_12, f67_12, f68_12, f69_12, f70_12, f71_12, f72_12, f73_12, f74_12, f75_12, f76_12, f77_12, f78_12])
      have f76_13 := fun hh => getq q76_13 hh
      have q77_13 : At T13 77 (.int .i64 Y1) := by subst hT; exact (by first | (simp only [At, ↓Array.getElem?_setIfInBounds_ne, ne_eq, Nat.reduceEqDiff, not_false_eq_true, q77_12]; done) | simp [At, hs12, f2_12, f3_12, f4_12, f5_12, f6_12, f8_12, f10_12, f16_12, f67_12, f68_12, f69_12, f70_12, f71_12, f72_12, f73_12, f74_12, f75_12, f76_12, f77_12, f78_12])
      have f77_13 := fun hh => getq q77_13 hh
      have q78_13 : At T13 78 (.bool OB) := by subst hT; exact (by first | (simp only [At, ↓Array.getElem?_setIfInBounds_ne, ne_eq, Nat.reduceEqDiff, not_false_eq_true, q78_12]; done) | simp [At, hs12, f2_12, f3_12, f4_12, f5_12, f6_12, f8_12, f10_12, f16_12, f67_12, f68_12, f69_12, f70_12, f71_12, f72_12, f73_12, f74_12, f75_12, f76_12, f77_12, f78_12])
      have f78_13 := fun hh => getq q78_13 hh
      have q79_13 : At T13 79 (.int .i64 P2) := by subst hT; exact (by first | (simp only [At, ↓Array.getElem?_setIfInBounds_ne, ne_eq, Nat.reduceEqDiff, not_false_eq_true]; done) | simp [At, hs12, f2_12, f3_12, f4_12, f5_12, f6_12, f8_12, f10_12, f16_12, f67_12, f68_12, f69_12, f70_12, f71_12, f72_12, f73_12, f74_12, f75_12, f76_12, f77_12, f78_12])
      have f79_13 := fun hh => getq q79_13 hh
      have q80_13 : At T13 80 (.int .i64 Q2) := by subst hT; exact (by first | (simp only [At, ↓Array.getElem?_setIfInBounds_ne, ne_eq, Nat.reduceEqDiff, not_false_eq_true]; done) | simp [At, hs12, f2_12, f3_12, f4_12, f5_12, f6_12, f8_12, f10_12, f16_12, f67_12, f68_12, f69_12, f70_12, f71_12, f72_12, f73_12, f74_12, f75_12, f76_12, f77_12, f78_12])
      have f80_13 := fun hh => getq q80_13 hh
      have q81_13 : At T13 81 (.bool OC) := by subst hT; exact (by first | (simp only [At, ↓Array.getElem?_setIfInBounds_ne, ne_eq, Nat.reduceEqDiff, not_false_eq_true]; done) | simp [At, hs12, f2_12, f3_12, f4_12, f5_12, f6_12, f8_12, f10_12, f16_12, f67_12, f68_12, f69_12, f70_12, f71_12, f72_12, f73_12, f74_12, f75_12, f76_12, f77_12, f78_12])
      have f81_13 := fun hh => getq q81_13 hh
      have q82_13 : At T13 82 (.int .i64 P2) := by subst hT; exact (by first | (simp only [At, ↓Array.getElem?_setIfInBounds_ne, ne_eq, Nat.reduceEqDiff, not_false_eq_true]; done) | simp [At, hs12, f2_12, f3_12, f4_12, f5_12, f6_12, f8_12, f10_12, f16_12, f67_12, f68_12, f69_12, f70_12, f71_12, f72_12, f73_12, f74_12, f75_12, f76_12, f77_12, f78_12])
      have f82_13 := fun hh => getq q82_13 hh
      have q83_13 : At T13 83 (.int .i64 Q2) := by subst hT; exact (by first | (simp only [At, ↓Array.getElem?_setIfInBounds_ne, ne_eq, Nat.reduceEqDiff, not_false_eq_true]; done) | simp [At, hs12, f2_12, f3_12, f4_12, f5_12, f6_12, f8_12, f10_12, f16_12, f67_12, f68_12, f69_12, f70_12, f71_12, f72_12, f73_12, f74_12, f75_12, f76_12, f77_12, f78_12])
      have f83_13 := fun hh => getq q83_13 hh
      have q84_13 : At T13 84 (.bool OC) := by subst hT; exact (by first | (simp only [At, ↓Array.getElem?_setIfInBounds_ne, ne_eq, Nat.reduceEqDiff, not_false_eq_true]; done) | simp [At, hs12, f2_12, f3_12, f4_12, f5_12, f6_12, f8_12, f10_12, f16_12, f67_12, f68_12, f69_12, f70_12, f71_12, f72_12, f73_12, f74_12, f75_12, f76_12, f77_12, f78_12])
      have f84_13 := fun hh => getq q84_13 hh
      have q85_13 : At T13 85 (.pointer (some ⟨w127.heap.size, 0, none⟩)) := by subst hT; exact (by first | (simp only [At, ↓Array.getElem?_setIfInBounds_ne, ne_eq, Nat.reduceEqDiff, not_false_eq_true]; done) | simp [At, hs12, f2_12, f3_12, f4_12, f5_12, f6_12, f8_12, f10_12, f16_12, f67_12, f68_12, f69_12, f70_12, f71_12, f72_12, f73_12, f74_12, f75_12, f76_12, f77_12, f78_12])
      have f85_13 := fun hh => getq q85_13 hh
      have q86_13 : At T13 86 (.bool OM) := by subst hT; exact (by first | (simp only [At, ↓Array.getElem?_setIfInBounds_ne, ne_eq, Nat.reduceEqDiff, not_false_eq_true]; done) | simp [At, hs12, f2_12, f3_12, f4_12, f5_12, f6_12, f8_12, f10_12, f16_12, f67_12, f68_12, f69_12, f70_12, f71_12, f72_12, f73_12, f74_12, f75_12, f76_12, f77_12, f78_12])
      have f86_13 := fun hh => getq q86_13 hh
      have q87_13 : At T13 87 (.pointer (some ⟨w128.heap.size, 0, none⟩)) := by subst hT; exact (by first | (simp only [At, ↓Array.getElem?_setIfInBounds_ne, ne_eq, Nat.reduceEqDiff, not_false_eq_true]; done) | simp [At, hs12, f2_12, f3_12, f4_12, f5_12, f6_12, f8_12, f10_12, f16_12, f67_12, f68_12, f69_12, f70_12, f71_12, f72_12, f73_12, f74_12, f75_12, f76_12, f77_12, f78_12])
      have f87_13 := fun hh => getq q87_13 hh
      have q88_13 : At T13 88 (.bool OM) := by subst hT; exact (by first | (simp only [At, ↓Array.getElem?_setIfInBounds_ne, ne_eq, Nat.reduceEqDiff, not_false_eq_true]; done) | simp [At, hs12, f2_12, f3_12, f4_12, f5_12, f6_12, f8_12, f10_12, f16_12, f67_12, f68_12, f69_12, f70_12, f71_12, f72_12, f73_12, f74_12, f75_12, f76_12, f77_12, f78_12])
      have f88_13 := fun hh => getq q88_13 hh
      clear hT f78_12 f77_12 f76_12 f75_12 f74_12 f73_12 f72_12 f71_12 f70_12 f69_12 f68_12 f67_12 f16_12 f10_12 f8_12 f6_12 f5_12 f4_12 f3_12 f2_12 hs12 q2_12 q3_12 q4_12 q5_12 q6_12 q8_12 q10_12 q16_12 q67_12 q68_12 q69_12 q70_12 q71_12 q72_12 q73_12 q74_12 q75_12 q76_12 q77_12 q78_12
      refine with_world (C := fun W => Lay w [(w128.heap.size, n1, n2, n3), (w127.heap.size, n1, n2, n3), (w.heap.size + 1, ua, ub, uc), (w.heap.size + 1 + 1, za, zb, zc)] W) (Lay.c (g := w128.heap.size) (x0 := n1) (x1 := n2) (x2 := n3) (by simp [go_sem]) (by simp [go_sem]) (by simp [go_sem]) (by first | (simp; done) | (simp; omega)) (Lay.after (HFw128.out) (by repeat (first | exact Below.refl _ _ | refine bl_alloc ?_ _ | refine bl_drewN ?_ _ | refine bl_set ?_ (by first | omega | (simp; done) | (simp; omega)) _)))) ?_
      intro w129 hL_
      have HFw129 := Lib.hid hL_
      clear hL_ c00 c01 c02 z0 c10 c11 c12 z1 c20 c21 c22 z2
      obtain ⟨c00, c01, c02, z0, c10, c11, c12, z1, c20, c21, c22, z2, c30, c31, c32, z3, hbl⟩ := Lay.op (HFw129.out)
      clear hbl
      clear HG1 HG2 HH1 HH2 HO1 HO2 HV1 HV2
      refine wp_cut (fun a' wx => ∃ T : Array Value, a' = ⟨T, []⟩ ∧ T.size = 702 ∧ At T 2 (.bool rt) ∧ At T 3 (.int .i64 p) ∧ At T 4 (.int .i64 h) ∧ At T 5 (.int .i64 n) ∧ At T 6 (.int .i64 k) ∧ At T 8 (.int .i64 v) ∧ At T 10 (.pointer (some ⟨w.heap.size + 1, 0, none⟩)) ∧ At T 16 (.pointer (some ⟨w.heap.size + 1 + 1, 0, none⟩)) ∧ At T 67 (.int .i64 R1) ∧ At T 68 (.int .i64 S1) ∧ At T 69 (.bool OB) ∧ At T 73 (.int .i64 X1) ∧ At T 74 (.int .i64 Y1) ∧ At T 79 (.int .i64 P2) ∧ At T 80 (.int .i64 Q2) ∧ At T 81 (.bool OC) ∧ At T 85 (.pointer (some ⟨w127.heap.size, 0, none⟩)) ∧ At T 86 (.bool OM) ∧ At T 588 (.bool false) ∧ Lay w [(w128.heap.size, n1, n2, n3), (w127.heap.size, n1, n2, n3), (w.heap.size + 1, ua, ub, uc), (w.heap.size + 1 + 1, za, zb, zc)] wx) ?rest3 ?first3
      case first3 =>
        intro J K' hJ hK
        clear FB FC FD
        go_wp2_with fail
        refine Met.intro (hJ _ _ ⟨_, rfl, by simp [hs13], by first | (simp only [At, ↓Array.getElem?_setIfInBounds_ne, ne_eq, Nat.reduceEqDiff, not_false_eq_true, q2_13]; done) | simp [At, hs13, f2_13, f3_13, f4_13, f5_13, f6_13, f8_13, f10_13, f16_13, f67_13, f68_13, f69_13, f70_13, f71_13, f72_13, f73_13, f74_13, f75_13, f76_13, f77_13, f78_13, f79_13, f80_13, f81_13, f82_13, f83_13, f84_13, f85_13, f86_13, f87_13, f88_13], by first | (simp only [At, ↓Array.getElem?_setIfInBounds_ne, ne_eq, Nat.reduceEqDiff, not_false_eq_true, q3_13]; done) | simp [At, hs13, f2_13, f3_13, f4_13, f5_13, f6_13, f8_13, f10_13, f16_13, f67_13, f68_13, f69_13, f70_13, f71_13, f72_13, f73_13, f74_13, f75_13, f76_13, f77_13, f78_13, f79_13, f80_13, f81_13, f82_13, f83_13, f84_13, f85_13, f86_13, f87_13, f88_13], by first | (simp only [At, ↓Array.getElem?_setIfInBounds_ne, ne_eq, Nat.reduceEqDiff, not_false_eq_true, q4_13]; done) | simp [At, hs13, f2_13, f3_13, f4_13, f5_13, f6_13, f8_13, f10_13, f16_13, f67_13, f68_13, f69_13, f70_13, f71_13, f72_13, f73_13, f74_13, f75_13, f76_13, f77_13, f78_13, f79_13, f80_13, f81_13, f82_13, f83_13, f84_13, f85_13, f86_13, f87_13, f88_13], by first | (simp only [At, ↓Array.getElem?_setIfInBounds_ne, ne_eq, Nat.reduceEqDiff, not_false_eq_true, q5_13]; done) | simp [At, hs13, f2_13, f3_13, f4_13, f5_13, f6_13, f8_13, f10_13, f16_13, f67_13, f68_13, f69_13, f70_13, f71_13, f72_13, f73_13, f74_13, f75_13, f76_13, f77_13, f78_13, f79_13, f80_13, f81_13, f82_13, f83_13, f84_13, f85_13, f86_13, f87_13, f88_13], by first | (simp only [At, ↓Array.getElem?_setIfInBounds_ne, ne_eq, Nat.reduceEqDiff, not_false_eq_true, q6_13]; done) | simp [At, hs13, f2_13, f3_13, f4_13, f5_13, f6_13, f8_13, f10_13, f16_13, f67_13, f68_13, f69_13, f70_13, f71_13, f72_13, f73_13, f74_13, f75_13, f76_13, f77_13, f78_13, f79_13, f80_13, f81_13, f82_13, f83_13, f84_13, f85_13, f86_13, f87_13, f88_13], by first | (simp only [At, ↓Array.getElem?_setIfInBounds_ne, ne_eq, Nat.reduceEqDiff, not_false_eq_true, q8_13]; done) | simp [At, hs13, f2_13, f3_13, f4_13, f5_13, f6_13, f8_13, f10_13, f16_13, f67_13, f68_13, f69_13, f70_13, f71_13, f72_13, f73_13, f74_13, f75_13, f76_13, f77_13, f78_13, f79_13, f80_13, f81_13, f82_13, f83_13, f84_13, f85_13, f86_13, f87_13, f88_13], by first | (simp only [At, ↓Array.getElem?_setIfInBounds_ne, ne_eq, Nat.reduceEqDiff, not_false_eq_true, q10_13]; done) | simp [At, hs13, f2_13, f3_13, f4_13, f5_13, f6_13, f8_13, f10_13, f16_13, f67_13, f68_13, f69_13, f70_13, f71_13, f72_13, f73_13, f74_13, f75_13, f76_13, f77_13, f78_13, f79_13, f80_13, f81_13, f82_13, f83_13, f84_13, f85_13, f86_13, f87_13, f88_13], by first | (simp only [At, ↓Array.getElem?_setIfInBounds_ne, ne_eq, Nat.reduceEqDiff, not_false_eq_true, q16_13]; done) | simp [At, hs13, f2_13, f3_13, f4_13, f5_13, f6_13, f8_13, f10_13, f16_13, f67_13, f68_13, f69_13, f70_13, f71_13, f72_13, f73_13, f74_13, f75_13, f76_13, f77_13, f78_13, f79_13, f80_13, f81_13, f82_13, f83_13, f84_13, f85_13, f86_13, f87_13, f88_13], by first | (simp only [At, ↓Array.getElem?_setIfInBounds_ne, ne_eq, Nat.reduceEqDiff, not_false_eq_true, q67_13]; done) | simp [At, hs13, f2_13, f3_13, f4_13, f5_13, f6_13, f8_13, f10_13, f16_13, f67_13, f68_13, f69_13, f70_13, f71_13, f72_13, f73_13, f74_13, f75_13, f76_13, f77_13, f78_13, f79_13, f80_13, f81_13, f82_13, f83_13, f84_13, f85_13, f86_13, f87_13, f88_13], by first | (simp only [At, ↓Array.getElem?_setIfInBounds_ne, ne_eq, Nat.reduceEqDiff, not_false_eq_true, q68_13]; done) | simp [At, hs13, f2_13, f3_13, f4_13, f5_13, f6_13, f8_13, f10_13, f16_13, f67_13, f68_13, f69_13, f70_13, f71_13, f72_13, f73_13, f74_13, f75_13, f76_13, f77_13, f78_13, f79_13, f80_13, f81_13, f82_13, f83_13, f84_13, f85_13, f86_13, f87_13, f88_13], by first | (simp only [At, ↓Array.getElem?_setIfInBounds_ne, ne_eq, Nat.reduceEqDiff, not_false_eq_true, q69_13]; done) | simp [At, hs13, f2_13, f3_13, f4_13, f5_13, f6_13, f8_13, f10_13, f16_13, f67_13, f68_13, f69_13, f70_13, f71_13, f72_13, f73_13, f74_13, f75_13, f76_13, f77_13, f78_13, f79_13, f80_13, f81_13, f82_13, f83_13, f84_13, f85_13, f86_13, f87_13, f88_13], by first | (simp only [At, ↓Array.getElem?_setIfInBounds_ne, ne_eq, Nat.reduceEqDiff, not_false_eq_true, q73_13]; done) | simp [At, hs13, f2_13, f3_13, f4_13, f5_13, f6_13, f8_13, f10_13, f16_13, f67_13, f68_13, f69_13, f70_13, f71_13, f72_13, f73_13, f74_13, f75_13, f76_13, f77_13, f78_13, f79_13, f80_13, f81_13, f82_13, f83_13, f84_13, f85_13, f86_13, f87_13, f88_13], by first | (simp only [At, ↓Array.getElem?_setIfInBounds_ne, ne_eq, Nat.reduceEqDiff, not_false_eq_true, q74_13]; done) | simp [At, hs13, f2_13, f3_13, f4_13, f5_13, f6_13, f8_13, f10_13, f16_13, f67_13, f68_13, f69_13, f70_13, f71_13, f72_13, f73_13, f74_13, f75_13, f76_13, f77_13, f78_13, f79_13, f80_13, f81_13, f82_13, f83_13, f84_13, f85_13, f86_13, f87_13, f88_13], by first | (simp only [At, ↓Array.getElem?_setIfInBounds_ne, ne_eq, Nat.reduceEqDiff, not_false_eq_true, q79_13]; done) | simp [At, hs13, f2_13, f3_13, f4_13, f5_13, f6_13, f8_13, f10_13, f16_13, f67_13, f68_13, f69_13, f70_13, f71_13, f72_13, f73_13, f74_13, f75_13, f76_13, f77_13, f78_13, f79_13, f80_13, f81_13, f82_13, f83_13, f84_13, f85_13, f86_13, f87_13, f88_13], by first | (simp only [At, ↓Array.getElem?_setIfInBounds_ne, ne_eq, Nat.reduceEqDiff, not_false_eq_true, q80_13]; done) | simp [At, hs13, f2_13, f3_13, f4_13, f5_13, f6_13, f8_13, f10_13, f16_13, f67_13, f68_13, f69_13, f70_13, f71_13, f72_13, f73_13, f74_13, f75_13, f76_13, f77_13, f78_13, f79_13, f80_13, f81_13, f82_13, f83_13, f84_13, f85_13, f86_13, f87_13, f88_13], by first | (simp only [At, ↓Array.getElem?_setIfInBounds_ne, ne_eq, Nat.reduceEqDiff, not_false_eq_true, q81_13]; done) | simp [At, hs13, f2_13, f3_13, f4_13, f5_13, f6_13, f8_13, f10_13, f16_13, f67_13, f68_13, f69_13, f70_13, f71_13, f72_13, f73_13, f74_13, f75_13, f76_13, f77_13, f78_13, f79_13, f80_13, f81_13, f82_13, f83_13, f84_13, f85_13, f86_13, f87_13, f88_13], by first | (simp only [At, ↓Array.getElem?_setIfInBounds_ne, ne_eq, Nat.reduceEqDiff, not_false_eq_true, q85_13]; done) | simp [At, hs13, f2_13, f3_13, f4_13, f5_13, f6_13, f8_13, f10_13, f16_13, f67_13, f68_13, f69_13, f70_13, f71_13, f72_13, f73_13, f74_13, f75_13, f76_13, f77_13, f78_13, f79_13, f80_13, f81_13, f82_13, f83_13, f84_13, f85_13, f86_13, f87_13, f88_13], by first | (simp only [At, ↓Array.getElem?_setIfInBounds_ne, ne_eq, Nat.reduceEqDiff, not_false_eq_true, q86_13]; done) | simp [At, hs13, f2_13, f3_13, f4_13, f5_13, f6_13, f8_13, f10_13, f16_13, f67_13, f68_13, f69_13, f70_13, f71_13, f72_13, f73_13, f74_13, f75_13, f76_13, f77_13, f78_13, f79_13, f80_13, f81_13, f82_13, f83_13, f84_13, f85_13, f86_13, f87_13, f88_13], by first | (simp only [At, ↓Array.getElem?_setIfInBounds_ne, ne_eq, Nat.reduceEqDiff, not_false_eq_true]; done) | simp [At, hs13, f2_13, f3_13, f4_13, f5_13, f6_13, f8_13, f10_13, f16_13, f67_13, f68_13, f69_13, f70_13, f71_13, f72_13, f73_13, f74_13, f75_13, f76_13, f77_13, f78_13, f79_13, f80_13, f81_13, f82_13, f83_13, f84_13, f85_13, f86_13, f87_13, f88_13], HFw129.out⟩)
      case rest3 =>
        intro a' wc3 hR3
        obtain ⟨T14, rfl, hs14, q2_14, q3_14, q4_14, q5_14, q6_14, q8_14, q10_14, q16_14, q67_14, q68_14, q69_14, q73_14, q74_14, q79_14, q80_14, q81_14, q85_14, q86_14, q588_14, hL_⟩ := hR3
        have f2_14 := fun hh => getq q2_14 hh
        have f3_14 := fun hh => getq q3_14 hh
        have f4_14 := fun hh => getq q4_14 hh
        have f5_14 := fun hh => getq q5_14 hh
        have f6_14 := fun hh => getq q6_14 hh
        have f8_14 := fun hh => getq q8_14 hh
        have f10_14 := fun hh => getq q10_14 hh
        have f16_14 := fun hh => getq q16_14 hh
        have f67_14 := fun hh => getq q67_14 hh
        have f68_14 := fun hh => getq q68_14 hh
        have f69_14 := fun hh => getq q69_14 hh
        have f73_14 := fun hh => getq q73_14 hh
        have f74_14 := fun hh => getq q74_14 hh
        have f79_14 := fun hh => getq q79_14 hh
        have f80_14 := fun hh => getq q80_14 hh
        have f81_14 := fun hh => getq q81_14 hh
        have f85_14 := fun hh => getq q85_14 hh
        have f86_14 := fun hh => getq q86_14 hh
        have f588_14 := fun hh => getq q588_14 hh
        have HFwc3 := Lib.hid hL_
        clear hL_
        obtain ⟨c00, c01, c02, z0, c10, c11, c12, z1, c20, c21, c22, z2, c30, c31, c32, z3, hbl⟩ := Lay.op (HFwc3.out)
        clear hbl
        go_wp2_with fail
        refine wp_cond_f ?_ ?_
        · go_simp
        go_upto_region 40 with fail
        refine reframe fun T15 hT => ?_
        have hs15 : T15.size = 702 := by subst hT; simp [hs14]
        have q2_15 : At T15 2 (.bool rt) := by subst hT; exact (by first | (simp only [At, ↓Array.getElem?_setIfInBounds_ne, ne_eq, Nat.reduceEqDiff, not_false_eq_true, q2_14]; done) | simp [At, hs14, f2_14, f3_14, f4_14, f5_14, f6_14, f8_14, f10_14, f16_14, f67_14, f68_14, f69_14, f73_14, f74_14, f79_14, f80_14, f81_14, f85_14, f86_14, f588_14])
        have f2_15 := fun hh => getq q2_15 hh
        have q3_15 : At T15 3 (.int .i64 p) := by subst hT; exact (by first | (simp only [At, ↓Array.getElem?_setIfInBounds_ne, ne_eq, Nat.reduceEqDiff, not_false_eq_true, q3_14]; done) | simp [At, hs14, f2_14, f3_14, f4_14, f5_14, f6_14, f8_14, f10_14, f16_14, f67_14, f68_14, f69_14, f73_14, f74_14, f79_14, f80_14, f81_14, f85_14, f86_14, f588_14])
        have f3_15 := fun hh => getq q3_15 hh
        have q4_15 : At T15 4 (.int .i64 h) := by subst hT; exact (by first | (simp only [At, ↓Array.getElem?_setIfInBounds_ne, ne_eq, Nat.reduceEqDiff, not_false_eq_true, q4_14]; done) | simp [At, hs14, f2_14, f3_14, f4_14, f5_14, f6_14, f8_14, f10_14, f16_14, f67_14, f68_14, f69_14, f73_14, f74_14, f79_14, f80_14, f81_14, f85_14, f86_14, f588_14])
        have f4_15 := fun hh => getq q4_15 hh
        have q5_15 : At T15 5 (.int .i64 n) := by subst hT; exact (by first | (simp only [At, ↓Array.getElem?_setIfInBounds_ne, ne_eq, Nat.reduceEqDiff, not_false_eq_true, q5_14]; done) | simp [At, hs14, f2_14, f3_14, f4_14, f5_14, f6_14, f8_14, f10_14, f16_14, f67_14, f68_14, f69_14, f73_14, f74_14, f79_14, f80_14, f81_14, f85_14, f86_14, f588_14])
        have f5_15 := fun hh => getq q5_15 hh
        have q6_15 : At T15 6 (.int .i64 k) := by subst hT; exact (by first | (simp only [At, ↓Array.getElem?_setIfInBounds_ne, ne_eq, Nat.reduceEqDiff, not_false_eq_true, q6_14]; done) | simp [At, hs14, f2_14, f3_14, f4_14, f5_14, f6_14, f8_14, f10_14, f16_14, f67_14, f68_14, f69_14, f73_14, f74_14, f79_14, f80_14, f81_14, f85_14, f86_14, f588_14])
        have f6_15 := fun hh => getq q6_15 hh
        have q8_15 : At T15 8 (.int .i64 v) := by subst hT; exact (by first | (simp only [At, ↓Array.getElem?_setIfInBounds_ne, ne_eq, Nat.reduceEqDiff, not_false_eq_true, q8_14]; done) | simp [At, hs14, f2_14, f3_14, f4_14, f5_14, f6_14, f8_14, f10_14, f16_14, f67_14, f68_14, f69_14, f73_14, f74_14, f79_14, f80_14, f81_14, f85_14, f86_14, f588_14])
        have f8_15 := fun hh => getq q8_15 hh
        have q10_15 : At T15 10 (.pointer (some ⟨w.heap.size + 1, 0, none⟩)) := by subst hT; exact (by first | (simp only [At, ↓Array.getElem?_setIfInBounds_ne, ne_eq, Nat.reduceEqDiff, not_false_eq_true, q10_14]; done) | simp [At, hs14, f2_14, f3_14, f4_14, f5_14, f6_14, f8_14, f10_14, f16_14, f67_14, f68_14, f69_14, f73_14, f74_14, f79_14, f80_14, f81_14, f85_14, f86_14, f588_14])
        have f10_15 := fun hh => getq q10_15 hh
        have q16_15 : At T15 16 (.pointer (some ⟨w.heap.size + 1 + 1, 0, none⟩)) := by subst hT; exact (by first | (simp only [At, ↓Array.getElem?_setIfInBounds_ne, ne_eq, Nat.reduceEqDiff, not_false_eq_true, q16_14]; done) | simp [At, hs14, f2_14, f3_14, f4_14, f5_14, f6_14, f8_14, f10_14, f16_14, f67_14, f68_14, f69_14, f73_14, f74_14, f79_14, f80_14, f81_14, f85_14, f86_14, f588_14])
        have f16_15 := fun hh => getq q16_15 hh
        have q67_15 : At T15 67 (.int .i64 R1) := by subst hT; exact (by first | (simp only [At, ↓Array.getElem?_setIfInBounds_ne, ne_eq, Nat.reduceEqDiff, not_false_eq_true, q67_14]; done) | simp [At, hs14, f2_14, f3_14, f4_14, f5_14, f6_14, f8_14, f10_14, f16_14, f67_14, f68_14, f69_14, f73_14, f74_14, f79_14, f80_14, f81_14, f85_14, f86_14, f588_14])
        have f67_15 := fun hh => getq q67_15 hh
        have q68_15 : At T15 68 (.int .i64 S1) := by subst hT; exact (by first | (simp only [At, ↓Array.getElem?_setIfInBounds_ne, ne_eq, Nat.reduceEqDiff, not_false_eq_true, q68_14]; done) | simp [At, hs14, f2_14, f3_14, f4_14, f5_14, f6_14, f8_14, f10_14, f16_14, f67_14, f68_14, f69_14, f73_14, f74_14, f79_14, f80_14, f81_14, f85_14, f86_14, f588_14])
        have f68_15 := fun hh => getq q68_15 hh
        have q69_15 : At T15 69 (.bool OB) := by subst hT; exact (by first | (simp only [At, ↓Array.getElem?_setIfInBounds_ne, ne_eq, Nat.reduceEqDiff, not_false_eq_true, q69_14]; done) | simp [At, hs14, f2_14, f3_14, f4_14, f5_14, f6_14, f8_14, f10_14, f16_14, f67_14, f68_14, f69_14, f73_14, f74_14, f79_14, f80_14, f81_14, f85_14, f86_14, f588_14])
        have f69_15 := fun hh => getq q69_15 hh
        have q73_15 : At T15 73 (.int .i64 X1) := by subst hT; exact (by first | (simp only [At, ↓Array.getElem?_setIfInBounds_ne, ne_eq, Nat.reduceEqDiff, not_false_eq_true, q73_14]; done) | simp [At, hs14, f2_14, f3_14, f4_14, f5_14, f6_14, f8_14, f10_14, f16_14, f67_14, f68_14, f69_14, f73_14, f74_14, f79_14, f80_14, f81_14, f85_14, f86_14, f588_14])
        have f73_15 := fun hh => getq q73_15 hh
        have q74_15 : At T15 74 (.int .i64 Y1) := by subst hT; exact (by first | (simp only [At, ↓Array.getElem?_setIfInBounds_ne, ne_eq, Nat.reduceEqDiff, not_false_eq_true, q74_14]; done) | simp [At, hs14, f2_14, f3_14, f4_14, f5_14, f6_14, f8_14, f10_14, f16_14, f67_14, f68_14, f69_14, f73_14, f74_14, f79_14, f80_14, f81_14, f85_14, f86_14, f588_14])
        have f74_15 := fun hh => getq q74_15 hh
        have q79_15 : At T15 79 (.int .i64 P2) := by subst hT; exact (by first | (simp only [At, ↓Array.getElem?_setIfInBounds_ne, ne_eq, Nat.reduceEqDiff, not_false_eq_true, q79_14]; done) | simp [At, hs14, f2_14, f3_14, f4_14, f5_14, f6_14, f8_14, f10_14, f16_14, f67_14, f68_14, f69_14, f73_14, f74_14, f79_14, f80_14, f81_14, f85_14, f86_14, f588_14])
        have f79_15 := fun hh => getq q79_15 hh
        have q80_15 : At T15 80 (.int .i64 Q2) := by subst hT; exact (by first | (simp only [At, ↓Array.getElem?_setIfInBounds_ne, ne_eq, Nat.reduceEqDiff, not_false_eq_true, q80_14]; done) | simp [At, hs14, f2_14, f3_14, f4_14, f5_14, f6_14, f8_14, f10_14, f16_14, f67_14, f68_14, f69_14, f73_14, f74_14, f79_14, f80_14, f81_14, f85_14, f86_14, f588_14])
        have f80_15 := fun hh => getq q80_15 hh
        have q81_15 : At T15 81 (.bool OC) := by subst hT; exact (by first | (simp only [At, ↓Array.getElem?_setIfInBounds_ne, ne_eq, Nat.reduceEqDiff, not_false_eq_true, q81_14]; done) | simp [At, hs14, f2_14, f3_14, f4_14, f5_14, f6_14, f8_14, f10_14, f16_14, f67_14, f68_14, f69_14, f73_14, f74_14, f79_14, f80_14, f81_14, f85_14, f86_14, f588_14])
        have f81_15 := fun hh => getq q81_15 hh
        have q85_15 : At T15 85 (.pointer (some ⟨w127.heap.size, 0, none⟩)) := by subst hT; exact (by first | (simp only [At, ↓Array.getElem?_setIfInBounds_ne, ne_eq, Nat.reduceEqDiff, not_false_eq_true, q85_14]; done) | simp [At, hs14, f2_14, f3_14, f4_14, f5_14, f6_14, f8_14, f10_14, f16_14, f67_14, f68_14, f69_14, f73_14, f74_14, f79_14, f80_14, f81_14, f85_14, f86_14, f588_14])
        have f85_15 := fun hh => getq q85_15 hh
        have q86_15 : At T15 86 (.bool OM) := by subst hT; exact (by first | (simp only [At, ↓Array.getElem?_setIfInBounds_ne, ne_eq, Nat.reduceEqDiff, not_false_eq_true, q86_14]; done) | simp [At, hs14, f2_14, f3_14, f4_14, f5_14, f6_14, f8_14, f10_14, f16_14, f67_14, f68_14, f69_14, f73_14, f74_14, f79_14, f80_14, f81_14, f85_14, f86_14, f588_14])
        have f86_15 := fun hh => getq q86_15 hh
        have q588_15 : At T15 588 (.bool false) := by subst hT; exact (by first | (simp only [At, ↓Array.getElem?_setIfInBounds_ne, ne_eq, Nat.reduceEqDiff, not_false_eq_true, q588_14]; done) | simp [At, hs14, f2_14, f3_14, f4_14, f5_14, f6_14, f8_14, f10_14, f16_14, f67_14, f68_14, f69_14, f73_14, f74_14, f79_14, f80_14, f81_14, f85_14, f86_14, f588_14])
        have f588_15 := fun hh => getq q588_15 hh
        clear hT f588_14 f86_14 f85_14 f81_14 f80_14 f79_14 f74_14 f73_14 f69_14 f68_14 f67_14 f16_14 f10_14 f8_14 f6_14 f5_14 f4_14 f3_14 f2_14 hs14 q2_14 q3_14 q4_14 q5_14 q6_14 q8_14 q10_14 q16_14 q67_14 q68_14 q69_14 q73_14 q74_14 q79_14 q80_14 q81_14 q85_14 q86_14 q588_14
        go_wp2_with fail
        refine wp_cut (fun a' wx => ∃ T : Array Value, a' = ⟨T, []⟩ ∧ T.size = 702 ∧ At T 4 (.int .i64 h) ∧ At T 5 (.int .i64 n) ∧ At T 6 (.int .i64 k) ∧ At T 8 (.int .i64 v) ∧ At T 10 (.pointer (some ⟨w.heap.size + 1, 0, none⟩)) ∧ At T 16 (.pointer (some ⟨w.heap.size + 1 + 1, 0, none⟩)) ∧ At T 79 (.int .i64 P2) ∧ At T 80 (.int .i64 Q2) ∧ At T 81 (.bool OC) ∧ At T 85 (.pointer (some ⟨w127.heap.size, 0, none⟩)) ∧ At T 86 (.bool OM) ∧ Lay w [(w128.heap.size, n1, n2, n3), (w127.heap.size, n1, n2, n3), (w.heap.size + 1, ua, ub, uc), (w.heap.size + 1 + 1, za, zb, zc)] wx) ?rest4 ?first4
        case first4 =>
          intro J K' hJ hK
          clear FC FD
          cases OB
          · go_wp2_with fail
            refine wp_cond_f ?_ ?_
            · go_simp
            go_wp2_with fail
            refine Met.intro (hJ _ _ ⟨_, rfl, by simp [hs15], by first | (simp only [At, ↓Array.getElem?_setIfInBounds_ne, ne_eq, Nat.reduceEqDiff, not_false_eq_true, q4_15]; done) | simp [At, hs15, f2_15, f3_15, f4_15, f5_15, f6_15, f8_15, f10_15, f16_15, f67_15, f68_15, f69_15, f73_15, f74_15, f79_15, f80_15, f81_15, f85_15, f86_15, f588_15], by first | (simp only [At, ↓Array.getElem?_setIfInBounds_ne, ne_eq, Nat.reduceEqDiff, not_false_eq_true, q5_15]; done) | simp [At, hs15, f2_15, f3_15, f4_15, f5_15, f6_15, f8_15, f10_15, f16_15, f67_15, f68_15, f69_15, f73_15, f74_15, f79_15, f80_15, f81_15, f85_15, f86_15, f588_15], by first | (simp only [At, ↓Array.getElem?_setIfInBounds_ne, ne_eq, Nat.reduceEqDiff, not_false_eq_true, q6_15]; done) | simp [At, hs15, f2_15, f3_15, f4_15, f5_15, f6_15, f8_15, f10_15, f16_15, f67_15, f68_15, f69_15, f73_15, f74_15, f79_15, f80_15, f81_15, f85_15, f86_15, f588_15], by first | (simp only [At, ↓Array.getElem?_setIfInBounds_ne, ne_eq, Nat.reduceEqDiff, not_false_eq_true, q8_15]; done) | simp [At, hs15, f2_15, f3_15, f4_15, f5_15, f6_15, f8_15, f10_15, f16_15, f67_15, f68_15, f69_15, f73_15, f74_15, f79_15, f80_15, f81_15, f85_15, f86_15, f588_15], by first | (simp only [At, ↓Array.getElem?_setIfInBounds_ne, ne_eq, Nat.reduceEqDiff, not_false_eq_true, q10_15]; done) | simp [At, hs15, f2_15, f3_15, f4_15, f5_15, f6_15, f8_15, f10_15, f16_15, f67_15, f68_15, f69_15, f73_15, f74_15, f79_15, f80_15, f81_15, f85_15, f86_15, f588_15], by first | (simp only [At, ↓Array.getElem?_setIfInBounds_ne, ne_eq, Nat.reduceEqDiff, not_false_eq_true, q16_15]; done) | simp [At, hs15, f2_15, f3_15, f4_15, f5_15, f6_15, f8_15, f10_15, f16_15, f67_15, f68_15, f69_15, f73_15, f74_15, f79_15, f80_15, f81_15, f85_15, f86_15, f588_15], by first | (simp only [At, ↓Array.getElem?_setIfInBounds_ne, ne_eq, Nat.reduceEqDiff, not_false_eq_true, q79_15]; done) | simp [At, hs15, f2_15, f3_15, f4_15, f5_15, f6_15, f8_15, f10_15, f16_15, f67_15, f68_15, f69_15, f73_15, f74_15, f79_15, f80_15, f81_15, f85_15, f86_15, f588_15], by first | (simp only [At, ↓Array.getElem?_setIfInBounds_ne, ne_eq, Nat.reduceEqDiff, not_false_eq_true, q80_15]; done) | simp [At, hs15, f2_15, f3_15, f4_15, f5_15, f6_15, f8_15, f10_15, f16_15, f67_15, f68_15, f69_15, f73_15, f74_15, f79_15, f80_15, f81_15, f85_15, f86_15, f588_15], by first | (simp only [At, ↓Array.getElem?_setIfInBounds_ne, ne_eq, Nat.reduceEqDiff, not_false_eq_true, q81_15]; done) | simp [At, hs15, f2_15, f3_15, f4_15, f5_15, f6_15, f8_15, f10_15, f16_15, f67_15, f68_15, f69_15, f73_15, f74_15, f79_15, f80_15, f81_15, f85_15, f86_15, f588_15], by first | (simp only [At, ↓Array.getElem?_setIfInBounds_ne, ne_eq, Nat.reduceEqDiff, not_false_eq_true, q85_15]; done) | simp [At, hs15, f2_15, f3_15, f4_15, f5_15, f6_15, f8_15, f10_15, f16_15, f67_15, f68_15, f69_15, f73_15, f74_15, f79_15, f80_15, f81_15, f85_15, f86_15, f588_15], by first | (simp only [At, ↓Array.getElem?_setIfInBounds_ne, ne_eq, Nat.reduceEqDiff, not_false_eq_true, q86_15]; done) | simp [At, hs15, f2_15, f3_15, f4_15, f5_15, f6_15, f8_15, f10_15, f16_15, f67_15, f68_15, f69_15, f73_15, f74_15, f79_15, f80_15, f81_15, f85_15, f86_15, f588_15], HFwc3.out⟩)
          · obtain ⟨HP, ⟨l1, l2, l3⟩, ⟨r1, r2, p1, p2, x1, x2⟩, s1, s2, q1, q2, y1, y2⟩ := FB.out rfl
            clear FB
            go_wp2_with fail
            refine wp_cond_t ?_ ?_
            · go_simp
            go_wp2_with fail
            refine ((HP _).out).mono ?_
            rintro e w130 ⟨rfl, hb_⟩
            have HFw130 := Lib.hid (Lay.after (w := w) (B := [(w128.heap.size, n1, n2, n3), (w127.heap.size, n1, n2, n3), (w.heap.size + 1, ua, ub, uc), (w.heap.size + 1 + 1, za, zb, zc)]) (Lay.after (HFwc3.out) (by repeat (first | exact Below.refl _ _ | refine bl_alloc ?_ _ | refine bl_drewN ?_ _ | refine bl_set ?_ (by first | omega | (simp; done) | (simp; omega)) _))) hb_)
            clear hb_ c00 c01 c02 z0 c10 c11 c12 z1 c20 c21 c22 z2 c30 c31 c32 z3
            obtain ⟨c00, c01, c02, z0, c10, c11, c12, z1, c20, c21, c22, z2, c30, c31, c32, z3, hbl⟩ := Lay.op (HFw130.out)
            clear hbl
            go_upto_region 42 with fail
            refine reframe fun T16 hT => ?_
            have hs16 : T16.size = 702 := by subst hT; simp [hs15]
            have q4_16 : At T16 4 (.int .i64 h) := by subst hT; exact (by first | (simp only [At, ↓Array.getElem?_setIfInBounds_ne, ne_eq, Nat.reduceEqDiff, not_false_eq_true, q4_15]; done) | simp [At, hs15, f2_15, f3_15, f4_15, f5_15, f6_15, f8_15, f10_15, f16_15, f67_15, f68_15, f69_15, f73_15, f74_15, f79_15, f80_15, f81_15, f85_15, f86_15, f588_15])
            have f4_16 := fun hh => getq q4_16 hh
            have q5_16 : At T16 5 (.int .i64 n) := by subst hT; exact (by first | (simp only [At, ↓Array.getElem?_setIfInBounds_ne, ne_eq, Nat.reduceEqDiff, not_false_eq_true, q5_15]; done) | simp [At, hs15, f2_15, f3_15, f4_15, f5_15, f6_15, f8_15, f10_15, f16_15, f67_15, f68_15, f69_15, f73_15, f74_15, f79_15, f80_15, f81_15, f85_15, f86_15, f588_15])
            have f5_16 := fun hh => getq q5_16 hh
            have q6_16 : At T16 6 (.int .i64 k) := by subst hT; exact (by first | (simp only [At, ↓Array.getElem?_setIfInBounds_ne, ne_eq, Nat.reduceEqDiff, not_false_eq_true, q6_15]; done) | simp [At, hs15, f2_15, f3_15, f4_15, f5_15, f6_15, f8_15, f10_15, f16_15, f67_15, f68_15, f69_15, f73_15, f74_15, f79_15, f80_15, f81_15, f85_15, f86_15, f588_15])
            have f6_16 := fun hh => getq q6_16 hh
            have q8_16 : At T16 8 (.int .i64 v) := by subst hT; exact (by first | (simp only [At, ↓Array.getElem?_setIfInBounds_ne, ne_eq, Nat.reduceEqDiff, not_false_eq_true, q8_15]; done) | simp [At, hs15, f2_15, f3_15, f4_15, f5_15, f6_15, f8_15, f10_15, f16_15, f67_15, f68_15, f69_15, f73_15, f74_15, f79_15, f80_15, f81_15, f85_15, f86_15, f588_15])
            have f8_16 := fun hh => getq q8_16 hh
            have q10_16 : At T16 10 (.pointer (some ⟨w.heap.size + 1, 0, none⟩)) := by subst hT; exact (by first | (simp only [At, ↓Array.getElem?_setIfInBounds_ne, ne_eq, Nat.reduceEqDiff, not_false_eq_true, q10_15]; done) | simp [At, hs15, f2_15, f3_15, f4_15, f5_15, f6_15, f8_15, f10_15, f16_15, f67_15, f68_15, f69_15, f73_15, f74_15, f79_15, f80_15, f81_15, f85_15, f86_15, f588_15])
            have f10_16 := fun hh => getq q10_16 hh
            have q16_16 : At T16 16 (.pointer (some ⟨w.heap.size + 1 + 1, 0, none⟩)) := by subst hT; exact (by first | (simp only [At, ↓Array.getElem?_setIfInBounds_ne, ne_eq, Nat.reduceEqDiff, not_false_eq_true, q16_15]; done) | simp [At, hs15, f2_15, f3_15, f4_15, f5_15, f6_15, f8_15, f10_15, f16_15, f67_15, f68_15, f69_15, f73_15, f74_15, f79_15, f80_15, f81_15, f85_15, f86_15, f588_15])
            have f16_16 := fun hh => getq q16_16 hh
            have q79_16 : At T16 79 (.int .i64 P2) := by subst hT; exact (by first | (simp only [At, ↓Array.getElem?_setIfInBounds_ne, ne_eq, Nat.reduceEqDiff, not_false_eq_true, q79_15]; done) | simp [At, hs15, f2_15, f3_15, f4_15, f5_15, f6_15, f8_15, f10_15, f16_15, f67_15, f68_15, f69_15, f73_15, f74_15, f79_15, f80_15, f81_15, f85_15, f86_15, f588_15])
            have f79_16 := fun hh => getq q79_16 hh
            have q80_16 : At T16 80 (.int .i64 Q2) := by subst hT; exact (by first | (simp only [At, ↓Array.getElem?_setIfInBounds_ne, ne_eq, Nat.reduceEqDiff, not_false_eq_true, q80_15]; done) | simp [At, hs15, f2_15, f3_15, f4_15, f5_15, f6_15, f8_15, f10_15, f16_15, f67_15, f68_15, f69_15, f73_15, f74_15, f79_15, f80_15, f81_15, f85_15, f86_15, f588_15])
            have f80_16 := fun hh => getq q80_16 hh
            have q81_16 : At T16 81 (.bool OC) := by subst hT; exact (by first | (simp only [At, ↓Array.getElem?_setIfInBounds_ne, ne_eq, Nat.reduceEqDiff, not_false_eq_true, q81_15]; done) | simp [At, hs15, f2_15, f3_15, f4_15, f5_15, f6_15, f8_15, f10_15, f16_15, f67_15, f68_15, f69_15, f73_15, f74_15, f79_15, f80_15, f81_15, f85_15, f86_15, f588_15])
            have f81_16 := fun hh => getq q81_16 hh
            have q85_16 : At T16 85 (.pointer (some ⟨w127.heap.size, 0, none⟩)) := by subst hT; exact (by first | (simp only [At, ↓Array.getElem?_setIfInBounds_ne, ne_eq, Nat.reduceEqDiff, not_false_eq_true, q85_15]; done) | simp [At, hs15, f2_15, f3_15, f4_15, f5_15, f6_15, f8_15, f10_15, f16_15, f67_15, f68_15, f69_15, f73_15, f74_15, f79_15, f80_15, f81_15, f85_15, f86_15, f588_15])
            have f85_16 := fun hh => getq q85_16 hh
            have q86_16 : At T16 86 (.bool OM) := by subst hT; exact (by first | (simp only [At, ↓Array.getElem?_setIfInBounds_ne, ne_eq, Nat.reduceEqDiff, not_false_eq_true, q86_15]; done) | simp [At, hs15, f2_15, f3_15, f4_15, f5_15, f6_15, f8_15, f10_15, f16_15, f67_15, f68_15, f69_15, f73_15, f74_15, f79_15, f80_15, f81_15, f85_15, f86_15, f588_15])
            have f86_16 := fun hh => getq q86_16 hh
            have q67_16 : At T16 67 (.int .i64 R1) := by subst hT; exact (by first | (simp only [At, ↓Array.getElem?_setIfInBounds_ne, ne_eq, Nat.reduceEqDiff, not_false_eq_true, q67_15]; done) | simp [At, hs15, f2_15, f3_15, f4_15, f5_15, f6_15, f8_15, f10_15, f16_15, f67_15, f68_15, f69_15, f73_15, f74_15, f79_15, f80_15, f81_15, f85_15, f86_15, f588_15])
            have f67_16 := fun hh => getq q67_16 hh
            have q68_16 : At T16 68 (.int .i64 S1) := by subst hT; exact (by first | (simp only [At, ↓Array.getElem?_setIfInBounds_ne, ne_eq, Nat.reduceEqDiff, not_false_eq_true, q68_15]; done) | simp [At, hs15, f2_15, f3_15, f4_15, f5_15, f6_15, f8_15, f10_15, f16_15, f67_15, f68_15, f69_15, f73_15, f74_15, f79_15, f80_15, f81_15, f85_15, f86_15, f588_15])
            have f68_16 := fun hh => getq q68_16 hh
            have q73_16 : At T16 73 (.int .i64 X1) := by subst hT; exact (by first | (simp only [At, ↓Array.getElem?_setIfInBounds_ne, ne_eq, Nat.reduceEqDiff, not_false_eq_true, q73_15]; done) | simp [At, hs15, f2_15, f3_15, f4_15, f5_15, f6_15, f8_15, f10_15, f16_15, f67_15, f68_15, f69_15, f73_15, f74_15, f79_15, f80_15, f81_15, f85_15, f86_15, f588_15])
            have f73_16 := fun hh => getq q73_16 hh
            have q74_16 : At T16 74 (.int .i64 Y1) := by subst hT; exact (by first | (simp only [At, ↓Array.getElem?_setIfInBounds_ne, ne_eq, Nat.reduceEqDiff, not_false_eq_true, q74_15]; done) | simp [At, hs15, f2_15, f3_15, f4_15, f5_15, f6_15, f8_15, f10_15, f16_15, f67_15, f68_15, f69_15, f73_15, f74_15, f79_15, f80_15, f81_15, f85_15, f86_15, f588_15])
            have f74_16 := fun hh => getq q74_16 hh
            have q89_16 : At T16 89 (.int .i64 P1) := by subst hT; exact (by first | (simp only [At, ↓Array.getElem?_setIfInBounds_ne, ne_eq, Nat.reduceEqDiff, not_false_eq_true]; done) | simp [At, hs15, f2_15, f3_15, f4_15, f5_15, f6_15, f8_15, f10_15, f16_15, f67_15, f68_15, f69_15, f73_15, f74_15, f79_15, f80_15, f81_15, f85_15, f86_15, f588_15])
            have f89_16 := fun hh => getq q89_16 hh
            have q90_16 : At T16 90 (.int .i64 Q1) := by subst hT; exact (by first | (simp only [At, ↓Array.getElem?_setIfInBounds_ne, ne_eq, Nat.reduceEqDiff, not_false_eq_true]; done) | simp [At, hs15, f2_15, f3_15, f4_15, f5_15, f6_15, f8_15, f10_15, f16_15, f67_15, f68_15, f69_15, f73_15, f74_15, f79_15, f80_15, f81_15, f85_15, f86_15, f588_15])
            have f90_16 := fun hh => getq q90_16 hh
            have q91_16 : At T16 91 (.bool true) := by subst hT; exact (by first | (simp only [At, ↓Array.getElem?_setIfInBounds_ne, ne_eq, Nat.reduceEqDiff, not_false_eq_true]; done) | simp [At, hs15, f2_15, f3_15, f4_15, f5_15, f6_15, f8_15, f10_15, f16_15, f67_15, f68_15, f69_15, f73_15, f74_15, f79_15, f80_15, f81_15, f85_15, f86_15, f588_15])
            have f91_16 := fun hh => getq q91_16 hh
            clear hT f588_15 f86_15 f85_15 f81_15 f80_15 f79_15 f74_15 f73_15 f69_15 f68_15 f67_15 f16_15 f10_15 f8_15 f6_15 f5_15 f4_15 f3_15 f2_15 hs15 q2_15 q3_15 q4_15 q5_15 q6_15 q8_15 q10_15 q16_15 q67_15 q68_15 q69_15 q73_15 q74_15 q79_15 q80_15 q81_15 q85_15 q86_15 q588_15
            obtain ⟨e1, e1'⟩ := mul_bdx (a := X1) (b := S1) (m := 1000000) (k := 1000) (by omega) (by omega) (by omega) (by omega)
            obtain ⟨e2, e2'⟩ := mul_bdx (a := R1) (b := Y1) (m := 1000000) (k := 1000) (by omega) (by omega) (by omega) (by omega)
            obtain ⟨e3, e3'⟩ := mul_bdx (a := X1) (b := Q1) (m := 1000000) (k := 1000) (by omega) (by omega) (by omega) (by omega)
            obtain ⟨e4, e4'⟩ := mul_bdx (a := P1) (b := Y1) (m := 1000000) (k := 1000) (by omega) (by omega) (by omega) (by omega)
            have w1_ : IntKind.i64.wrap (X1 * S1) = X1 * S1 := IntWalk.i64_in _ ⟨by omega, by omega⟩
            have w2_ : IntKind.i64.wrap (R1 * Y1) = R1 * Y1 := IntWalk.i64_in _ ⟨by omega, by omega⟩
            have w3_ : IntKind.i64.wrap (X1 * Q1) = X1 * Q1 := IntWalk.i64_in _ ⟨by omega, by omega⟩
            have w4_ : IntKind.i64.wrap (P1 * Y1) = P1 * Y1 := IntWalk.i64_in _ ⟨by omega, by omega⟩
            have h1_ : ¬ X1 * S1 < R1 * Y1 := by omega
            have h2_ : ¬ X1 * Q1 < P1 * Y1 := by omega
            clear l1 l2 e1 e1' e2 e2' e3 e3' e4 e4'
            by_cases hx : X1 * S1 = R1 * Y1
            · have hxb : (X1 * S1 == R1 * Y1) = true := by rw [hx]; exact beq_self_eq_true _
              skip
              go_wp2_with fail
              refine wp_cond_f ?_ ?_
              · go_simp
              go_wp2_with fail
              refine Met.intro (hJ _ _ ⟨_, rfl, by simp [hs16], by first | (simp only [At, ↓Array.getElem?_setIfInBounds_ne, ne_eq, Nat.reduceEqDiff, not_false_eq_true, q4_16]; done) | simp [At, hs16, f4_16, f5_16, f6_16, f8_16, f10_16, f16_16, f79_16, f80_16, f81_16, f85_16, f86_16, f67_16, f68_16, f73_16, f74_16, f89_16, f90_16, f91_16], by first | (simp only [At, ↓Array.getElem?_setIfInBounds_ne, ne_eq, Nat.reduceEqDiff, not_false_eq_true, q5_16]; done) | simp [At, hs16, f4_16, f5_16, f6_16, f8_16, f10_16, f16_16, f79_16, f80_16, f81_16, f85_16, f86_16, f67_16, f68_16, f73_16, f74_16, f89_16, f90_16, f91_16], by first | (simp only [At, ↓Array.getElem?_setIfInBounds_ne, ne_eq, Nat.reduceEqDiff, not_false_eq_true, q6_16]; done) | simp [At, hs16, f4_16, f5_16, f6_16, f8_16, f10_16, f16_16, f79_16, f80_16, f81_16, f85_16, f86_16, f67_16, f68_16, f73_16, f74_16, f89_16, f90_16, f91_16], by first | (simp only [At, ↓Array.getElem?_setIfInBounds_ne, ne_eq, Nat.reduceEqDiff, not_false_eq_true, q8_16]; done) | simp [At, hs16, f4_16, f5_16, f6_16, f8_16, f10_16, f16_16, f79_16, f80_16, f81_16, f85_16, f86_16, f67_16, f68_16, f73_16, f74_16, f89_16, f90_16, f91_16], by first | (simp only [At, ↓Array.getElem?_setIfInBounds_ne, ne_eq, Nat.reduceEqDiff, not_false_eq_true, q10_16]; done) | simp [At, hs16, f4_16, f5_16, f6_16, f8_16, f10_16, f16_16, f79_16, f80_16, f81_16, f85_16, f86_16, f67_16, f68_16, f73_16, f74_16, f89_16, f90_16, f91_16], by first | (simp only [At, ↓Array.getElem?_setIfInBounds_ne, ne_eq, Nat.reduceEqDiff, not_false_eq_true, q16_16]; done) | simp [At, hs16, f4_16, f5_16, f6_16, f8_16, f10_16, f16_16, f79_16, f80_16, f81_16, f85_16, f86_16, f67_16, f68_16, f73_16, f74_16, f89_16, f90_16, f91_16], by first | (simp only [At, ↓Array.getElem?_setIfInBounds_ne, ne_eq, Nat.reduceEqDiff, not_false_eq_true, q79_16]; done) | simp [At, hs16, f4_16, f5_16, f6_16, f8_16, f10_16, f16_16, f79_16, f80_16, f81_16, f85_16, f86_16, f67_16, f68_16, f73_16, f74_16, f89_16, f90_16, f91_16], by first | (simp only [At, ↓Array.getElem?_setIfInBounds_ne, ne_eq, Nat.reduceEqDiff, not_false_eq_true, q80_16]; done) | simp [At, hs16, f4_16, f5_16, f6_16, f8_16, f10_16, f16_16, f79_16, f80_16, f81_16, f85_16, f86_16, f67_16, f68_16, f73_16, f74_16, f89_16, f90_16, f91_16], by first | (simp only [At, ↓Array.getElem?_setIfInBounds_ne, ne_eq, Nat.reduceEqDiff, not_false_eq_true, q81_16]; done) | simp [At, hs16, f4_16, f5_16, f6_16, f8_16, f10_16, f16_16, f79_16, f80_16, f81_16, f85_16, f86_16, f67_16, f68_16, f73_16, f74_16, f89_16, f90_16, f91_16], by first | (simp only [At, ↓Array.getElem?_setIfInBounds_ne, ne_eq, Nat.reduceEqDiff, not_false_eq_true, q85_16]; done) | simp [At, hs16, f4_16, f5_16, f6_16, f8_16, f10_16, f16_16, f79_16, f80_16, f81_16, f85_16, f86_16, f67_16, f68_16, f73_16, f74_16, f89_16, f90_16, f91_16], by first | (simp only [At, ↓Array.getElem?_setIfInBounds_ne, ne_eq, Nat.reduceEqDiff, not_false_eq_true, q86_16]; done) | simp [At, hs16, f4_16, f5_16, f6_16, f8_16, f10_16, f16_16, f79_16, f80_16, f81_16, f85_16, f86_16, f67_16, f68_16, f73_16, f74_16, f89_16, f90_16, f91_16], HFw130.out⟩)
            · have hxb : (X1 * S1 == R1 * Y1) = false := beq_eq_false_iff_ne.2 hx
              have hy : X1 * Q1 = P1 * Y1 := l3.resolve_left hx
              go_wp2_with fail
              refine wp_cond_f ?_ ?_
              · go_simp
              go_wp2_with fail
              refine Met.intro (hJ _ _ ⟨_, rfl, by simp [hs16], by first | (simp only [At, ↓Array.getElem?_setIfInBounds_ne, ne_eq, Nat.reduceEqDiff, not_false_eq_true, q4_16]; done) | simp [At, hs16, f4_16, f5_16, f6_16, f8_16, f10_16, f16_16, f79_16, f80_16, f81_16, f85_16, f86_16, f67_16, f68_16, f73_16, f74_16, f89_16, f90_16, f91_16], by first | (simp only [At, ↓Array.getElem?_setIfInBounds_ne, ne_eq, Nat.reduceEqDiff, not_false_eq_true, q5_16]; done) | simp [At, hs16, f4_16, f5_16, f6_16, f8_16, f10_16, f16_16, f79_16, f80_16, f81_16, f85_16, f86_16, f67_16, f68_16, f73_16, f74_16, f89_16, f90_16, f91_16], by first | (simp only [At, ↓Array.getElem?_setIfInBounds_ne, ne_eq, Nat.reduceEqDiff, not_false_eq_true, q6_16]; done) | simp [At, hs16, f4_16, f5_16, f6_16, f8_16, f10_16, f16_16, f79_16, f80_16, f81_16, f85_16, f86_16, f67_16, f68_16, f73_16, f74_16, f89_16, f90_16, f91_16], by first | (simp only [At, ↓Array.getElem?_setIfInBounds_ne, ne_eq, Nat.reduceEqDiff, not_false_eq_true, q8_16]; done) | simp [At, hs16, f4_16, f5_16, f6_16, f8_16, f10_16, f16_16, f79_16, f80_16, f81_16, f85_16, f86_16, f67_16, f68_16, f73_16, f74_16, f89_16, f90_16, f91_16], by first | (simp only [At, ↓Array.getElem?_setIfInBounds_ne, ne_eq, Nat.reduceEqDiff, not_false_eq_true, q10_16]; done) | simp [At, hs16, f4_16, f5_16, f6_16, f8_16, f10_16, f16_16, f79_16, f80_16, f81_16, f85_16, f86_16, f67_16, f68_16, f73_16, f74_16, f89_16, f90_16, f91_16], by first | (simp only [At, ↓Array.getElem?_setIfInBounds_ne, ne_eq, Nat.reduceEqDiff, not_false_eq_true, q16_16]; done) | simp [At, hs16, f4_16, f5_16, f6_16, f8_16, f10_16, f16_16, f79_16, f80_16, f81_16, f85_16, f86_16, f67_16, f68_16, f73_16, f74_16, f89_16, f90_16, f91_16], by first | (simp only [At, ↓Array.getElem?_setIfInBounds_ne, ne_eq, Nat.reduceEqDiff, not_false_eq_true, q79_16]; done) | simp [At, hs16, f4_16, f5_16, f6_16, f8_16, f10_16, f16_16, f79_16, f80_16, f81_16, f85_16, f86_16, f67_16, f68_16, f73_16, f74_16, f89_16, f90_16, f91_16], by first | (simp only [At, ↓Array.getElem?_setIfInBounds_ne, ne_eq, Nat.reduceEqDiff, not_false_eq_true, q80_16]; done) | simp [At, hs16, f4_16, f5_16, f6_16, f8_16, f10_16, f16_16, f79_16, f80_16, f81_16, f85_16, f86_16, f67_16, f68_16, f73_16, f74_16, f89_16, f90_16, f91_16], by first | (simp only [At, ↓Array.getElem?_setIfInBounds_ne, ne_eq, Nat.reduceEqDiff, not_false_eq_true, q81_16]; done) | simp [At, hs16, f4_16, f5_16, f6_16, f8_16, f10_16, f16_16, f79_16, f80_16, f81_16, f85_16, f86_16, f67_16, f68_16, f73_16, f74_16, f89_16, f90_16, f91_16], by first | (simp only [At, ↓Array.getElem?_setIfInBounds_ne, ne_eq, Nat.reduceEqDiff, not_false_eq_true, q85_16]; done) | simp [At, hs16, f4_16, f5_16, f6_16, f8_16, f10_16, f16_16, f79_16, f80_16, f81_16, f85_16, f86_16, f67_16, f68_16, f73_16, f74_16, f89_16, f90_16, f91_16], by first | (simp only [At, ↓Array.getElem?_setIfInBounds_ne, ne_eq, Nat.reduceEqDiff, not_false_eq_true, q86_16]; done) | simp [At, hs16, f4_16, f5_16, f6_16, f8_16, f10_16, f16_16, f79_16, f80_16, f81_16, f85_16, f86_16, f67_16, f68_16, f73_16, f74_16, f89_16, f90_16, f91_16], HFw130.out⟩)
        case rest4 =>
          intro a' wc4 hR4
          obtain ⟨T17, rfl, hs17, q4_17, q5_17, q6_17, q8_17, q10_17, q16_17, q79_17, q80_17, q81_17, q85_17, q86_17, hL_⟩ := hR4
          have f4_17 := fun hh => getq q4_17 hh
          have f5_17 := fun hh => getq q5_17 hh
          have f6_17 := fun hh => getq q6_17 hh
          have f8_17 := fun hh => getq q8_17 hh
          have f10_17 := fun hh => getq q10_17 hh
          have f16_17 := fun hh => getq q16_17 hh
          have f79_17 := fun hh => getq q79_17 hh
          have f80_17 := fun hh => getq q80_17 hh
          have f81_17 := fun hh => getq q81_17 hh
          have f85_17 := fun hh => getq q85_17 hh
          have f86_17 := fun hh => getq q86_17 hh
          have HFwc4 := Lib.hid hL_
          clear hL_
          obtain ⟨c00, c01, c02, z0, c10, c11, c12, z1, c20, c21, c22, z2, c30, c31, c32, z3, hbl⟩ := Lay.op (HFwc4.out)
          clear hbl
          clear FB
          go_wp2_with fail
          refine wp_cut (fun a' wx => ∃ T : Array Value, a' = ⟨T, []⟩ ∧ T.size = 702 ∧ At T 8 (.int .i64 v) ∧ At T 16 (.pointer (some ⟨w.heap.size + 1 + 1, 0, none⟩)) ∧ At T 85 (.pointer (some ⟨w127.heap.size, 0, none⟩)) ∧ At T 86 (.bool OM) ∧ Lay w [(w128.heap.size, n1, n2, n3), (w127.heap.size, n1, n2, n3), (w.heap.size + 1, ua, ub, uc), (w.heap.size + 1 + 1, za, zb, zc)] wx) ?rest5 ?first5
          case first5 =>
            intro J K' hJ hK
            clear FD
            cases OC
            · go_wp2_with fail
              refine wp_cond_f ?_ ?_
              · go_simp
              go_wp2_with fail
              refine Met.intro (hJ _ _ ⟨_, rfl, by simp [hs17], by first | (simp only [At, ↓Array.getElem?_setIfInBounds_ne, ne_eq, Nat.reduceEqDiff, not_false_eq_true, q8_17]; done) | simp [At, hs17, f4_17, f5_17, f6_17, f8_17, f10_17, f16_17, f79_17, f80_17, f81_17, f85_17, f86_17], by first | (simp only [At, ↓Array.getElem?_setIfInBounds_ne, ne_eq, Nat.reduceEqDiff, not_false_eq_true, q16_17]; done) | simp [At, hs17, f4_17, f5_17, f6_17, f8_17, f10_17, f16_17, f79_17, f80_17, f81_17, f85_17, f86_17], by first | (simp only [At, ↓Array.getElem?_setIfInBounds_ne, ne_eq, Nat.reduceEqDiff, not_false_eq_true, q85_17]; done) | simp [At, hs17, f4_17, f5_17, f6_17, f8_17, f10_17, f16_17, f79_17, f80_17, f81_17, f85_17, f86_17], by first | (simp only [At, ↓Array.getElem?_setIfInBounds_ne, ne_eq, Nat.reduceEqDiff, not_false_eq_true, q86_17]; done) | simp [At, hs17, f4_17, f5_17, f6_17, f8_17, f10_17, f16_17, f79_17, f80_17, f81_17, f85_17, f86_17], HFwc4.out⟩)
            · obtain ⟨HJ, hE, ⟨h1, h2, i1, i2, k1, k2⟩, p1, p2, q1, q2⟩ := FC.out rfl
              clear FC
              have EE := Lib.hid hE
              clear hE
              go_wp2_with fail
              refine wp_cond_t ?_ ?_
              · go_simp
              go_upto_region 45 with fail
              refine reframe fun T18 hT => ?_
              have hs18 : T18.size = 702 := by subst hT; simp [hs17]
              have q4_18 : At T18 4 (.int .i64 h) := by subst hT; exact (by first | (simp only [At, ↓Array.getElem?_setIfInBounds_ne, ne_eq, Nat.reduceEqDiff, not_false_eq_true, q4_17]; done) | simp [At, hs17, f4_17, f5_17, f6_17, f8_17, f10_17, f16_17, f79_17, f80_17, f81_17, f85_17, f86_17])
              have f4_18 := fun hh => getq q4_18 hh
              have q5_18 : At T18 5 (.int .i64 n) := by subst hT; exact (by first | (simp only [At, ↓Array.getElem?_setIfInBounds_ne, ne_eq, Nat.reduceEqDiff, not_false_eq_true, q5_17]; done) | simp [At, hs17, f4_17, f5_17, f6_17, f8_17, f10_17, f16_17, f79_17, f80_17, f81_17, f85_17, f86_17])
              have f5_18 := fun hh => getq q5_18 hh
              have q6_18 : At T18 6 (.int .i64 k) := by subst hT; exact (by first | (simp only [At, ↓Array.getElem?_setIfInBounds_ne, ne_eq, Nat.reduceEqDiff, not_false_eq_true, q6_17]; done) | simp [At, hs17, f4_17, f5_17, f6_17, f8_17, f10_17, f16_17, f79_17, f80_17, f81_17, f85_17, f86_17])
              have f6_18 := fun hh => getq q6_18 hh
              have q8_18 : At T18 8 (.int .i64 v) := by subst hT; exact (by first | (simp only [At, ↓Array.getElem?_setIfInBounds_ne, ne_eq, Nat.reduceEqDiff, not_false_eq_true, q8_17]; done) | simp [At, hs17, f4_17, f5_17, f6_17, f8_17, f10_17, f16_17, f79_17, f80_17, f81_17, f85_17, f86_17])
              have f8_18 := fun hh => getq q8_18 hh
              have q10_18 : At T18 10 (.pointer (some ⟨w.heap.size + 1, 0, none⟩)) := by subst hT; exact (by first | (simp only [At, ↓Array.getElem?_setIfInBounds_ne, ne_eq, Nat.reduceEqDiff, not_false_eq_true, q10_17]; done) | simp [At, hs17, f4_17, f5_17, f6_17, f8_17, f10_17, f16_17, f79_17, f80_17, f81_17, f85_17, f86_17])
              have f10_18 := fun hh => getq q10_18 hh
              have q16_18 : At T18 16 (.pointer (some ⟨w.heap.size + 1 + 1, 0, none⟩)) := by subst hT; exact (by first | (simp only [At, ↓Array.getElem?_setIfInBounds_ne, ne_eq, Nat.reduceEqDiff, not_false_eq_true, q16_17]; done) | simp [At, hs17, f4_17, f5_17, f6_17, f8_17, f10_17, f16_17, f79_17, f80_17, f81_17, f85_17, f86_17])
              have f16_18 := fun hh => getq q16_18 hh
              have q79_18 : At T18 79 (.int .i64 P2) := by subst hT; exact (by first | (simp only [At, ↓Array.getElem?_setIfInBounds_ne, ne_eq, Nat.reduceEqDiff, not_false_eq_true, q79_17]; done) | simp [At, hs17, f4_17, f5_17, f6_17, f8_17, f10_17, f16_17, f79_17, f80_17, f81_17, f85_17, f86_17])
              have f79_18 := fun hh => getq q79_18 hh
              have q80_18 : At T18 80 (.int .i64 Q2) := by subst hT; exact (by first | (simp only [At, ↓Array.getElem?_setIfInBounds_ne, ne_eq, Nat.reduceEqDiff, not_false_eq_true, q80_17]; done) | simp [At, hs17, f4_17, f5_17, f6_17, f8_17, f10_17, f16_17, f79_17, f80_17, f81_17, f85_17, f86_17])
              have f80_18 := fun hh => getq q80_18 hh
              have q85_18 : At T18 85 (.pointer (some ⟨w127.heap.size, 0, none⟩)) := by subst hT; exact (by first | (simp only [At, ↓Array.getElem?_setIfInBounds_ne, ne_eq, Nat.reduceEqDiff, not_false_eq_true, q85_17]; done) | simp [At, hs17, f4_17, f5_17, f6_17, f8_17, f10_17, f16_17, f79_17, f80_17, f81_17, f85_17, f86_17])
              have f85_18 := fun hh => getq q85_18 hh
              have q86_18 : At T18 86 (.bool OM) := by subst hT; exact (by first | (simp only [At, ↓Array.getElem?_setIfInBounds_ne, ne_eq, Nat.reduceEqDiff, not_false_eq_true, q86_17]; done) | simp [At, hs17, f4_17, f5_17, f6_17, f8_17, f10_17, f16_17, f79_17, f80_17, f81_17, f85_17, f86_17])
              have f86_18 := fun hh => getq q86_18 hh
              clear hT f86_17 f85_17 f81_17 f80_17 f79_17 f16_17 f10_17 f8_17 f6_17 f5_17 f4_17 hs17 q4_17 q5_17 q6_17 q8_17 q10_17 q16_17 q79_17 q80_17 q81_17 q85_17 q86_17
              obtain ⟨e1, e1'⟩ := mul_bdx (a := h) (b := Q2) (m := 1000) (k := 1000000) (by omega) (by omega) (by omega) (by omega)
              obtain ⟨e2, e2'⟩ := mul_bdx (a := n) (b := P2 + h * Q2) (m := 1000) (k := 1001000000) (by omega) (by omega) (by omega) (by omega)
              obtain ⟨e3, e3'⟩ := mul_bdx (a := k) (b := h) (m := 1000) (k := 1000) (by omega) (by omega) (by omega) (by omega)
              have w1_ : IntKind.i64.wrap (h * Q2) = h * Q2 := IntWalk.i64_in _ ⟨by omega, by omega⟩
              have w2_ : IntKind.i64.wrap (P2 + h * Q2) = P2 + h * Q2 := IntWalk.i64_in _ ⟨by omega, by omega⟩
              have w3_ : IntKind.i64.wrap (n * (P2 + h * Q2)) = n * (P2 + h * Q2) := IntWalk.i64_in _ ⟨by omega, by omega⟩
              have w4_ : IntKind.i64.wrap (k * h) = k * h := IntWalk.i64_in _ ⟨by omega, by omega⟩
              have w5_ : IntKind.i64.wrap (k * h * P2) = n * (P2 + h * Q2) := by rw [← EE.out]; exact w3_
              clear e1 e1' e2 e2' e3 e3'
              go_wp2_with fail
              refine ((HJ _).out).mono ?_
              rintro e w' ⟨rfl, nA, rfl⟩
              go_wp2_with fail
              refine wp_cond_f ?_ ?_
              · go_simp
              go_wp2_with fail
              refine Met.intro (hJ _ _ ⟨_, rfl, by simp [hs18], by first | (simp only [At, ↓Array.getElem?_setIfInBounds_ne, ne_eq, Nat.reduceEqDiff, not_false_eq_true, q8_18]; done) | simp [At, hs18, f4_18, f5_18, f6_18, f8_18, f10_18, f16_18, f79_18, f80_18, f85_18, f86_18], by first | (simp only [At, ↓Array.getElem?_setIfInBounds_ne, ne_eq, Nat.reduceEqDiff, not_false_eq_true, q16_18]; done) | simp [At, hs18, f4_18, f5_18, f6_18, f8_18, f10_18, f16_18, f79_18, f80_18, f85_18, f86_18], by first | (simp only [At, ↓Array.getElem?_setIfInBounds_ne, ne_eq, Nat.reduceEqDiff, not_false_eq_true, q85_18]; done) | simp [At, hs18, f4_18, f5_18, f6_18, f8_18, f10_18, f16_18, f79_18, f80_18, f85_18, f86_18], by first | (simp only [At, ↓Array.getElem?_setIfInBounds_ne, ne_eq, Nat.reduceEqDiff, not_false_eq_true, q86_18]; done) | simp [At, hs18, f4_18, f5_18, f6_18, f8_18, f10_18, f16_18, f79_18, f80_18, f85_18, f86_18], (by repeat (first | exact HFwc4.out | refine Lay.drewN ?_ _))⟩)
          case rest5 =>
            intro a' wc5 hR5
            obtain ⟨T19, rfl, hs19, q8_19, q16_19, q85_19, q86_19, hL_⟩ := hR5
            have f8_19 := fun hh => getq q8_19 hh
            have f16_19 := fun hh => getq q16_19 hh
            have f85_19 := fun hh => getq q85_19 hh
            have f86_19 := fun hh => getq q86_19 hh
            have HFwc5 := Lib.hid hL_
            clear hL_
            obtain ⟨c00, c01, c02, z0, c10, c11, c12, z1, c20, c21, c22, z2, c30, c31, c32, z3, hbl⟩ := Lay.op (HFwc5.out)
            clear hbl
            clear FC
            go_wp2_with fail
            cases OM
            · go_wp2_with fail
              refine wp_cond_f ?_ ?_
              · go_simp
              go_upto_region 53 with fail
              refine reframe fun T20 hT => ?_
              have hs20 : T20.size = 702 := by subst hT; simp [hs19]
              clear hT f86_19 f85_19 f16_19 f8_19 hs19 q8_19 q16_19 q85_19 q86_19
              go_wp2
              go_ret
              exact ⟨by simp [hs20], Lay.bl (HFwc5.out)⟩
            · obtain ⟨HQ1, HQ2, HQ3, v1, v2⟩ := FD.out rfl
              clear FD
              have w1_ : IntKind.i64.wrap (-v) = -v := IntWalk.i64_in _ ⟨by omega, by omega⟩
              go_wp2_with fail
              refine wp_cond_t ?_ ?_
              · go_simp
              go_wp2_with fail
              refine ((HQ1 _).out).mono ?_
              rintro e w131 ⟨rfl, hb_⟩
              have HFw131 := Lib.hid (Lay.after (w := w) (B := [(w128.heap.size, n1, n2, n3), (w127.heap.size, n1, n2, n3), (w.heap.size + 1, ua, ub, uc), (w.heap.size + 1 + 1, za, zb, zc)]) (Lay.after (HFwc5.out) (by repeat (first | exact Below.refl _ _ | refine bl_alloc ?_ _ | refine bl_drewN ?_ _ | refine bl_set ?_ (by first | omega | (simp; done) | (simp; omega)) _))) hb_)
              clear hb_ c00 c01 c02 z0 c10 c11 c12 z1 c20 c21 c22 z2 c30 c31 c32 z3
              obtain ⟨c00, c01, c02, z0, c10, c11, c12, z1, c20, c21, c22, z2, c30, c31, c32, z3, hbl⟩ := Lay.op (HFw131.out)
              clear hbl
              go_wp2_with fail
              refine ((HQ2 _).out).mono ?_
              rintro e w132 ⟨rfl, hb_⟩
              have HFw132 := Lib.hid (Lay.after (w := w) (B := [(w128.heap.size, n1, n2, n3), (w127.heap.size, n1, n2, n3), (w.heap.size + 1, ua, ub, uc), (w.heap.size + 1 + 1, za, zb, zc)]) (Lay.after (HFw131.out) (by repeat (first | exact Below.refl _ _ | refine bl_alloc ?_ _ | refine bl_drewN ?_ _ | refine bl_set ?_ (by first | omega | (simp; done) | (simp; omega)) _))) hb_)
              clear hb_ c00 c01 c02 z0 c10 c11 c12 z1 c20 c21 c22 z2 c30 c31 c32 z3
              obtain ⟨c00, c01, c02, z0, c10, c11, c12, z1, c20, c21, c22, z2, c30, c31, c32, z3, hbl⟩ := Lay.op (HFw132.out)
              clear hbl
              go_wp2_with fail
              refine ((HQ3 _).out).mono ?_
              rintro e w133 ⟨rfl, hb_⟩
              have HFw133 := Lib.hid (Lay.after (w := w) (B := [(w128.heap.size, n1, n2, n3), (w127.heap.size, n1, n2, n3), (w.heap.size + 1, ua, ub, uc), (w.heap.size + 1 + 1, za, zb, zc)]) (Lay.after (HFw132.out) (by repeat (first | exact Below.refl _ _ | refine bl_alloc ?_ _ | refine bl_drewN ?_ _ | refine bl_set ?_ (by first | omega | (simp; done) | (simp; omega)) _))) hb_)
              clear hb_ c00 c01 c02 z0 c10 c11 c12 z1 c20 c21 c22 z2 c30 c31 c32 z3
              obtain ⟨c00, c01, c02, z0, c10, c11, c12, z1, c20, c21, c22, z2, c30, c31, c32, z3, hbl⟩ := Lay.op (HFw133.out)
              clear hbl
              go_upto_region 51 with fail
              refine reframe fun T21 hT => ?_
              have hs21 : T21.size = 702 := by subst hT; simp [hs19]
              have q16_21 : At T21 16 (.pointer (some ⟨w.heap.size + 1 + 1, 0, none⟩)) := by subst hT; exact (by first | (simp only [At, ↓Array.getElem?_setIfInBounds_ne, ne_eq, Nat.reduceEqDiff, not_false_eq_true, q16_19]; done) | simp [At, hs19, f8_19, f16_19, f85_19, f86_19])
              have f16_21 := fun hh => getq q16_21 hh
              have q92_21 : At T21 92 (.int .i64 P3) := by subst hT; exact (by first | (simp only [At, ↓Array.getElem?_setIfInBounds_ne, ne_eq, Nat.reduceEqDiff, not_false_eq_true]; done) | simp [At, hs19, f8_19, f16_19, f85_19, f86_19])
              have f92_21 := fun hh => getq q92_21 hh
              have q93_21 : At T21 93 (.int .i64 Q3) := by subst hT; exact (by first | (simp only [At, ↓Array.getElem?_setIfInBounds_ne, ne_eq, Nat.reduceEqDiff, not_false_eq_true]; done) | simp [At, hs19, f8_19, f16_19, f85_19, f86_19])
              have f93_21 := fun hh => getq q93_21 hh
              have q94_21 : At T21 94 (.bool true) := by subst hT; exact (by first | (simp only [At, ↓Array.getElem?_setIfInBounds_ne, ne_eq, Nat.reduceEqDiff, not_false_eq_true]; done) | simp [At, hs19, f8_19, f16_19, f85_19, f86_19])
              have f94_21 := fun hh => getq q94_21 hh
              have q95_21 : At T21 95 (.int .i64 P3) := by subst hT; exact (by first | (simp only [At, ↓Array.getElem?_setIfInBounds_ne, ne_eq, Nat.reduceEqDiff, not_false_eq_true]; done) | simp [At, hs19, f8_19, f16_19, f85_19, f86_19])
              have f95_21 := fun hh => getq q95_21 hh
              have q96_21 : At T21 96 (.int .i64 Q3) := by subst hT; exact (by first | (simp only [At, ↓Array.getElem?_setIfInBounds_ne, ne_eq, Nat.reduceEqDiff, not_false_eq_true]; done) | simp [At, hs19, f8_19, f16_19, f85_19, f86_19])
              have f96_21 := fun hh => getq q96_21 hh
              have q97_21 : At T21 97 (.bool true) := by subst hT; exact (by first | (simp only [At, ↓Array.getElem?_setIfInBounds_ne, ne_eq, Nat.reduceEqDiff, not_false_eq_true]; done) | simp [At, hs19, f8_19, f16_19, f85_19, f86_19])
              have f97_21 := fun hh => getq q97_21 hh
              have q98_21 : At T21 98 (.pointer (some ⟨w133.heap.size, 0, none⟩)) := by subst hT; exact (by first | (simp only [At, ↓Array.getElem?_setIfInBounds_ne, ne_eq, Nat.reduceEqDiff, not_false_eq_true]; done) | simp [At, hs19, f8_19, f16_19, f85_19, f86_19])
              have f98_21 := fun hh => getq q98_21 hh
              have q99_21 : At T21 99 (.bool true) := by subst hT; exact (by first | (simp only [At, ↓Array.getElem?_setIfInBounds_ne, ne_eq, Nat.reduceEqDiff, not_false_eq_true]; done) | simp [At, hs19, f8_19, f16_19, f85_19, f86_19])
              have f99_21 := fun hh => getq q99_21 hh
              clear hT f86_19 f85_19 f16_19 f8_19 hs19 q8_19 q16_19 q85_19 q86_19
              refine with_world (C := fun W => Lay w [(w133.heap.size, za, zb, zc), (w128.heap.size, n1, n2, n3), (w127.heap.size, n1, n2, n3), (w.heap.size + 1, ua, ub, uc), (w.heap.size + 1 + 1, za, zb, zc)] W) (Lay.c (g := w133.heap.size) (x0 := za) (x1 := zb) (x2 := zc) (by simp [go_sem]) (by simp [go_sem]) (by simp [go_sem]) (by first | (simp; done) | (simp; omega)) (Lay.after (HFw133.out) (by repeat (first | exact Below.refl _ _ | refine bl_alloc ?_ _ | refine bl_drewN ?_ _ | refine bl_set ?_ (by first | omega | (simp; done) | (simp; omega)) _)))) ?_
              intro w134 hL_
              have HFw134 := Lib.hid hL_
              clear hL_ c00 c01 c02 z0 c10 c11 c12 z1 c20 c21 c22 z2 c30 c31 c32 z3
              obtain ⟨c00, c01, c02, z0, c10, c11, c12, z1, c20, c21, c22, z2, c30, c31, c32, z3, c40, c41, c42, z4, hbl⟩ := Lay.op (HFw134.out)
              clear hbl
              go_wp2_with fail
              refine wp_cond_f ?_ ?_
              · go_simp
              go_upto_region 53 with fail
              refine reframe fun T22 hT => ?_
              have hs22 : T22.size = 702 := by subst hT; simp [hs21]
              clear hT f99_21 f98_21 f97_21 f96_21 f95_21 f94_21 f93_21 f92_21 f16_21 hs21 q16_21 q92_21 q93_21 q94_21 q95_21 q96_21 q97_21 q98_21 q99_21
              go_wp2
              go_ret
              exact ⟨by simp [hs22], Lay.bl (HFw134.out)⟩
end Go.Proofs.YtohlbnfncllhoaaDoor

/- The law 'FnExactMakePuzzle' holds for every input. -/
import Derived.Test.YtahcfjpplkemdaaPZL
import Derived.Test.YtahcfjpplkemdaaPZM
import Derived.Test.YtahcfjpplkemdaaO
import Derived.ProofKit
import Derived.OpenShut
import Derived.ShutString
import Derived.ChangeOld
import Derived.Lib.SmallJoins
namespace Go.Proofs.Ytahcfjpplkemdaa.fnExactMakePuzzle
open Go.ChangeShapes Go.WideShapes Go.ChangeAt Go.RowKit Go.Joins
open Go.ChangeMaps (open_string shut_string)
set_option linter.unusedVariables false
set_option linter.unusedSimpArgs false
theorem own : ownKnob Try.prog.godebug = none := by kernel_rfl
theorem laidOut : laidOutB Try.prog = true := by kernel_rfl

set_option maxHeartbeats 1000000 in
theorem walk (a00 : Int) (a01 : Int) (a02 : Int) (a1 : Int) (a2 : Int) (w00 : (Lit.int .i64 a00).wf = true) (w01 : (Lit.int .i64 a01).wf = true) (w02 : (Lit.int .i64 a02).wf = true) (w1 : (Lit.int .i64 a1).wf = true) (w2 : (Lit.int .i64 a2).wf = true) (w : World) :
    Calls Try.prog 6 #[.agg #[.int .i64 a00, .int .i64 a01, .int .i64 a02], .int .i64 a1, .int .i64 a2] w fun e w' => e = .returned (.bool true) ∧ Below w.heap.size w w' := by
  have hNb : mkN a00 a01 a02 a1 a2 ≤ 1048576 := mkN_le _ _ _ _ _
  go_enter Try.func6, Try.ntmps6
  go_wp2_with fail
  refine (toLadders_any _ _ _ _).mono ?_
  rintro e q1 ⟨rfl, hbq1⟩
  obtain ⟨hcq1, hfq1⟩ := bcell hbq1
  have hzq1 := bsize hbq1
  (try simp only [World.size_alloc, World.size_setCell] at hzq1)
  have kq1_0_0 : q1.cell? ⟨w.heap.size, 0, none⟩ = some (.int .i64 a00) := by rw [hcq1 _ _ (by first | (simp; done) | omega | (simp; omega))]; first | assumption | (simp [go_sem]; done) | (simp [go_sem]; done) | (simp [go_sem, *]; done)
  have kq1_0_1 : q1.cell? ⟨w.heap.size, 1, none⟩ = some (.int .i64 a01) := by rw [hcq1 _ _ (by first | (simp; done) | omega | (simp; omega))]; first | assumption | (simp [go_sem]; done) | (simp [go_sem]; done) | (simp [go_sem, *]; done)
  have kq1_0_2 : q1.cell? ⟨w.heap.size, 2, none⟩ = some (.int .i64 a02) := by rw [hcq1 _ _ (by first | (simp; done) | omega | (simp; omega))]; first | assumption | (simp [go_sem]; done) | (simp [go_sem]; done) | (simp [go_sem, *]; done)
  have sq1_0 : w.heap.size < q1.heap.size := by first | omega | (simp at *; omega)
  have hBq1 : Below w.heap.size w q1 := (by repeat (first | exact Below.refl _ _ | refine bl_alloc ?_ _ | refine bl_drewN ?_ _ | refine bl_trans (by assumption) ?_ | refine bl_set ?_ (by first | omega | (simp; done) | (simp; omega)) _))
  have HBq1 := Lib.hid hBq1
  clear hBq1 hcq1 hfq1 hbq1
  go_wp2_with fail
  refine (spec_MakePuzzle a00 a01 a02 a1 a2 _).mono ?_
  rintro e q2 ⟨r1, rfl, hR1, hbq2⟩
  obtain ⟨hcq2, hfq2⟩ := bcell hbq2
  have hzq2 := bsize hbq2
  (try simp only [World.size_alloc, World.size_setCell] at hzq2)
  have hkq2 : Below q1.heap.size q1 q2 := (by repeat (first | exact Below.refl _ _ | refine bl_alloc ?_ _ | refine bl_drewN ?_ _ | refine bl_trans (by assumption) ?_ | refine bl_set ?_ (by first | omega | (simp; done) | (simp; omega)) _))
  obtain ⟨ar1, cr1, rfl⟩ := hR1.toP.shape
  have kq2_0_0 : q2.cell? ⟨w.heap.size, 0, none⟩ = some (.int .i64 a00) := cell_after hkq2 sq1_0 kq1_0_0
  have kq2_0_1 : q2.cell? ⟨w.heap.size, 1, none⟩ = some (.int .i64 a01) := cell_after hkq2 sq1_0 kq1_0_1
  have kq2_0_2 : q2.cell? ⟨w.heap.size, 2, none⟩ = some (.int .i64 a02) := cell_after hkq2 sq1_0 kq1_0_2
  have sq2_0 : w.heap.size < q2.heap.size := size_after hkq2 sq1_0
  have hBq2 : Below w.heap.size w q2 := (by repeat (first | exact HBq1.out | exact Below.refl _ _ | refine bl_alloc ?_ _ | refine bl_drewN ?_ _ | refine bl_trans (by assumption) ?_ | refine bl_set ?_ (by first | omega | (simp; done) | (simp; omega)) _))
  have HBq2 := Lib.hid hBq2
  clear hBq2 hcq2 hfq2 hbq2 hkq2 kq1_0_0 kq1_0_1 kq1_0_2 sq1_0
  have lt_v0 := Lib.hid hR1.lt
  have V := Lib.hid hR1
  clear hR1
  go_wp2_with fail
  refine (toLadders_any _ _ _ _).mono ?_
  rintro e q3 ⟨rfl, hbq3⟩
  obtain ⟨hcq3, hfq3⟩ := bcell hbq3
  have hzq3 := bsize hbq3
  (try simp only [World.size_alloc, World.size_setCell] at hzq3)
  have hkq3 : Below q2.heap.size q2 q3 := (by repeat (first | exact Below.refl _ _ | refine bl_alloc ?_ _ | refine bl_drewN ?_ _ | refine bl_trans (by assumption) ?_ | refine bl_set ?_ (by first | omega | (simp; done) | (simp; omega)) _))
  have V := Lib.hid (V.out.keep hkq3)
  have kq3_0_0 : q3.cell? ⟨w.heap.size, 0, none⟩ = some (.int .i64 a00) := cell_after hkq3 sq2_0 kq2_0_0
  have kq3_0_1 : q3.cell? ⟨w.heap.size, 1, none⟩ = some (.int .i64 a01) := cell_after hkq3 sq2_0 kq2_0_1
  have kq3_0_2 : q3.cell? ⟨w.heap.size, 2, none⟩ = some (.int .i64 a02) := cell_after hkq3 sq2_0 kq2_0_2
  have sq3_0 : w.heap.size < q3.heap.size := size_after hkq3 sq2_0
  have kq3_1_0 : q3.cell? ⟨q2.heap.size, 0, none⟩ = some (.int .i64 (mkW a00 a01 a02 a1 a2)) := by rw [hcq3 _ _ (by first | (simp; done) | omega | (simp; omega))]; first | assumption | (simp [go_sem]; done) | (simp [go_sem, kq2_0_0, kq2_0_1, kq2_0_2]; done) | (simp [go_sem, *]; done)
  have kq3_1_1 : q3.cell? ⟨q2.heap.size, 1, none⟩ = some (.slice ar1 (mkN a00 a01 a02 a1 a2) cr1) := by rw [hcq3 _ _ (by first | (simp; done) | omega | (simp; omega))]; first | assumption | (simp [go_sem]; done) | (simp [go_sem, kq2_0_0, kq2_0_1, kq2_0_2]; done) | (simp [go_sem, *]; done)
  have sq3_1 : q2.heap.size < q3.heap.size := by first | omega | (simp at *; omega)
  have hBq3 : Below w.heap.size w q3 := (by repeat (first | exact HBq2.out | exact Below.refl _ _ | refine bl_alloc ?_ _ | refine bl_drewN ?_ _ | refine bl_trans (by assumption) ?_ | refine bl_set ?_ (by first | omega | (simp; done) | (simp; omega)) _))
  have HBq3 := Lib.hid hBq3
  clear hBq3 hcq3 hfq3 hbq3 hkq3 kq2_0_0 kq2_0_1 kq2_0_2 sq2_0
  go_wp2_with fail
  refine (impl_MakePuzzle a00 a01 a02 a1 a2 _).mono ?_
  rintro e q4 ⟨g0, rfl, hG, hbq4⟩
  obtain ⟨hcq4, hfq4⟩ := bcell hbq4
  have hzq4 := bsize hbq4
  (try simp only [World.size_alloc, World.size_setCell] at hzq4)
  have hkq4 : Below q3.heap.size q3 q4 := (by repeat (first | exact Below.refl _ _ | refine bl_alloc ?_ _ | refine bl_drewN ?_ _ | refine bl_trans (by assumption) ?_ | refine bl_set ?_ (by first | omega | (simp; done) | (simp; omega)) _))
  have V := Lib.hid (V.out.keep hkq4)
  have hG := hG.lower (C := q2.heap.size + 1) (by first | omega | (simp; done) | (simp; omega) | (simp at *; omega))
  have kq4_0_0 : q4.cell? ⟨w.heap.size, 0, none⟩ = some (.int .i64 a00) := cell_after hkq4 sq3_0 kq3_0_0
  have kq4_0_1 : q4.cell? ⟨w.heap.size, 1, none⟩ = some (.int .i64 a01) := cell_after hkq4 sq3_0 kq3_0_1
  have kq4_0_2 : q4.cell? ⟨w.heap.size, 2, none⟩ = some (.int .i64 a02) := cell_after hkq4 sq3_0 kq3_0_2
  have sq4_0 : w.heap.size < q4.heap.size := size_after hkq4 sq3_0
  have kq4_1_0 : q4.cell? ⟨q2.heap.size, 0, none⟩ = some (.int .i64 (mkW a00 a01 a02 a1 a2)) := cell_after hkq4 sq3_1 kq3_1_0
  have kq4_1_1 : q4.cell? ⟨q2.heap.size, 1, none⟩ = some (.slice ar1 (mkN a00 a01 a02 a1 a2) cr1) := cell_after hkq4 sq3_1 kq3_1_1
  have sq4_1 : q2.heap.size < q4.heap.size := size_after hkq4 sq3_1
  have hBq4 : Below w.heap.size w q4 := (by repeat (first | exact HBq3.out | exact Below.refl _ _ | refine bl_alloc ?_ _ | refine bl_drewN ?_ _ | refine bl_trans (by assumption) ?_ | refine bl_set ?_ (by first | omega | (simp; done) | (simp; omega)) _))
  have HBq4 := Lib.hid hBq4
  clear hBq4 hcq4 hfq4 hbq4 hkq4 kq3_0_0 kq3_0_1 kq3_0_2 sq3_0 kq3_1_0 kq3_1_1 sq3_1
  obtain ⟨ag, cg, rfl⟩ := hG.toP.shape
  have ge_g0 := Lib.hid hG.ge
  have lt_g0 := Lib.hid hG.lt
  have G := Lib.hid hG
  clear hG
  go_wp2_with fail
  refine (eqPuzzle_any (mkW a00 a01 a02 a1 a2) _ _ (mkN a00 a01 a02 a1 a2) (mkF a00 a01 a02 a2) _ (G.out.toP.keep (by repeat (first | exact Below.refl _ _ | refine bl_alloc ?_ _ | refine bl_drewN ?_ _ | refine bl_trans (by assumption) ?_ | refine bl_set ?_ (by first | omega | (simp; done) | (simp; omega)) _))) (V.out.toP.keep (by repeat (first | exact Below.refl _ _ | refine bl_alloc ?_ _ | refine bl_drewN ?_ _ | refine bl_trans (by assumption) ?_ | refine bl_set ?_ (by first | omega | (simp; done) | (simp; omega)) _)))).mono ?_
  rintro e q5 ⟨rfl, hbq5⟩
  obtain ⟨hcq5, hfq5⟩ := bcell hbq5
  have hzq5 := bsize hbq5
  (try simp only [World.size_alloc, World.size_setCell] at hzq5)
  have hkq5 : Below q4.heap.size q4 q5 := (by repeat (first | exact Below.refl _ _ | refine bl_alloc ?_ _ | refine bl_drewN ?_ _ | refine bl_trans (by assumption) ?_ | refine bl_set ?_ (by first | omega | (simp; done) | (simp; omega)) _))
  have V := Lib.hid (V.out.keep hkq5)
  have G := Lib.hid (G.out.keep hkq5)
  have kq5_0_0 : q5.cell? ⟨w.heap.size, 0, none⟩ = some (.int .i64 a00) := cell_after hkq5 sq4_0 kq4_0_0
  have kq5_0_1 : q5.cell? ⟨w.heap.size, 1, none⟩ = some (.int .i64 a01) := cell_after hkq5 sq4_0 kq4_0_1
  have kq5_0_2 : q5.cell? ⟨w.heap.size, 2, none⟩ = some (.int .i64 a02) := cell_after hkq5 sq4_0 kq4_0_2
  have sq5_0 : w.heap.size < q5.heap.size := size_after hkq5 sq4_0
  have kq5_1_0 : q5.cell? ⟨q2.heap.size, 0, none⟩ = some (.int .i64 (mkW a00 a01 a02 a1 a2)) := cell_after hkq5 sq4_1 kq4_1_0
  have kq5_1_1 : q5.cell? ⟨q2.heap.size, 1, none⟩ = some (.slice ar1 (mkN a00 a01 a02 a1 a2) cr1) := cell_after hkq5 sq4_1 kq4_1_1
  have sq5_1 : q2.heap.size < q5.heap.size := size_after hkq5 sq4_1
  have kq5_2_0 : q5.cell? ⟨q4.heap.size, 0, none⟩ = some (.int .i64 (mkW a00 a01 a02 a1 a2)) := by rw [hcq5 _ _ (by first | (simp; done) | omega | (simp; omega))]; first | assumption | (simp [go_sem]; done) | (simp [go_sem, kq4_0_0, kq4_0_1, kq4_0_2, kq4_1_0, kq4_1_1]; done) | (simp [go_sem, *]; done)
  have kq5_2_1 : q5.cell? ⟨q4.heap.size, 1, none⟩ = some (.slice ag (mkN a00 a01 a02 a1 a2) cg) := by rw [hcq5 _ _ (by first | (simp; done) | omega | (simp; omega))]; first | assumption | (simp [go_sem]; done) | (simp [go_sem, kq4_0_0, kq4_0_1, kq4_0_2, kq4_1_0, kq4_1_1]; done) | (simp [go_sem, *]; done)
  have sq5_2 : q4.heap.size < q5.heap.size := by first | omega | (simp at *; omega)
  have hBq5 : Below w.heap.size w q5 := (by repeat (first | exact HBq4.out | exact Below.refl _ _ | refine bl_alloc ?_ _ | refine bl_drewN ?_ _ | refine bl_trans (by assumption) ?_ | refine bl_set ?_ (by first | omega | (simp; done) | (simp; omega)) _))
  have HBq5 := Lib.hid hBq5
  clear hBq5 hcq5 hfq5 hbq5 hkq5 kq4_0_0 kq4_0_1 kq4_0_2 sq4_0 kq4_1_0 kq4_1_1 sq4_1
  go_wp2_with fail
  refine (markPuzzle_any (mkW a00 a01 a02 a1 a2) _ (mkN a00 a01 a02 a1 a2) _ _ _ G.out hNb).mono ?_
  rintro e q6 ⟨rfl, hO_, hg_⟩
  have hzq6 := hg_.size
  have nq6_0_0 := cell_far hg_ sq5_0 (box_ne ge_g0.out (by omega)) kq5_0_0
  have nq6_0_1 := cell_far hg_ sq5_0 (box_ne ge_g0.out (by omega)) kq5_0_1
  have nq6_0_2 := cell_far hg_ sq5_0 (box_ne ge_g0.out (by omega)) kq5_0_2
  have nsq6_0 := Nat.lt_of_lt_of_le sq5_0 hzq6
  have nq6_1_0 := cell_far hg_ sq5_1 (box_ne ge_g0.out (by omega)) kq5_1_0
  have nq6_1_1 := cell_far hg_ sq5_1 (box_ne ge_g0.out (by omega)) kq5_1_1
  have nsq6_1 := Nat.lt_of_lt_of_le sq5_1 hzq6
  have nq6_2_0 := cell_far hg_ sq5_2 (box_ne' lt_g0.out (by omega)) kq5_2_0
  have nq6_2_1 := cell_far hg_ sq5_2 (box_ne' lt_g0.out (by omega)) kq5_2_1
  have nsq6_2 := Nat.lt_of_lt_of_le sq5_2 hzq6
  have V := Lib.hid (V.out.other hg_ (row_ne lt_v0.out ge_g0.out (by omega)))
  have G := Lib.hid hO_
  have HBq6 := Lib.hid (bel_far HBq5.out hg_ ge_g0.out (by omega))
  clear hO_ hg_ kq5_0_0 kq5_0_1 kq5_0_2 sq5_0 kq5_1_0 kq5_1_1 sq5_1 kq5_2_0 kq5_2_1 sq5_2
  have hk1 : ¬ (1 + ((mkN a00 a01 a02 a1 a2 : Nat) : Int) * 3 < 0) := by omega
  go_wp2_with fail
  refine (heldPuzzle_any (mkW a00 a01 a02 a1 a2) _ (mkN a00 a01 a02 a1 a2) _ G.out.toP hNb).mono ?_
  rintro e q7 ⟨rfl, hbq7⟩
  obtain ⟨hcq7, hfq7⟩ := bcell hbq7
  have hzq7 := bsize hbq7
  (try simp only [World.size_alloc, World.size_setCell] at hzq7)
  have hkq7 : Below q6.heap.size q6 q7 := (by repeat (first | exact Below.refl _ _ | refine bl_alloc ?_ _ | refine bl_drewN ?_ _ | refine bl_trans (by assumption) ?_ | refine bl_set ?_ (by first | omega | (simp; done) | (simp; omega)) _))
  have V := Lib.hid (V.out.keep hkq7)
  have G := Lib.hid (G.out.keep hkq7)
  have kq7_0_0 : q7.cell? ⟨w.heap.size, 0, none⟩ = some (.int .i64 a00) := cell_after hkq7 nsq6_0 nq6_0_0
  have kq7_0_1 : q7.cell? ⟨w.heap.size, 1, none⟩ = some (.int .i64 a01) := cell_after hkq7 nsq6_0 nq6_0_1
  have kq7_0_2 : q7.cell? ⟨w.heap.size, 2, none⟩ = some (.int .i64 a02) := cell_after hkq7 nsq6_0 nq6_0_2
  have sq7_0 : w.heap.size < q7.heap.size := size_after hkq7 nsq6_0
  have kq7_1_0 : q7.cell? ⟨q2.heap.size, 0, none⟩ = some (.int .i64 (mkW a00 a01 a02 a1 a2)) := cell_after hkq7 nsq6_1 nq6_1_0
  have kq7_1_1 : q7.cell? ⟨q2.heap.size, 1, none⟩ = some (.slice ar1 (mkN a00 a01 a02 a1 a2) cr1) := cell_after hkq7 nsq6_1 nq6_1_1
  have sq7_1 : q2.heap.size < q7.heap.size := size_after hkq7 nsq6_1
  have kq7_2_0 : q7.cell? ⟨q4.heap.size, 0, none⟩ = some (.int .i64 (mkW a00 a01 a02 a1 a2)) := cell_after hkq7 nsq6_2 nq6_2_0
  have kq7_2_1 : q7.cell? ⟨q4.heap.size, 1, none⟩ = some (.slice ag (mkN a00 a01 a02 a1 a2) cg) := cell_after hkq7 nsq6_2 nq6_2_1
  have sq7_2 : q4.heap.size < q7.heap.size := size_after hkq7 nsq6_2
  have hBq7 : Below w.heap.size w q7 := (by repeat (first | exact HBq6.out | exact Below.refl _ _ | refine bl_alloc ?_ _ | refine bl_drewN ?_ _ | refine bl_trans (by assumption) ?_ | refine bl_set ?_ (by first | omega | (simp; done) | (simp; omega)) _))
  have HBq7 := Lib.hid hBq7
  clear hBq7 hcq7 hfq7 hbq7 hkq7 nq6_0_0 nq6_0_1 nq6_0_2 nsq6_0 nq6_1_0 nq6_1_1 nsq6_1 nq6_2_0 nq6_2_1 nsq6_2
  go_wp2_with fail
  refine (toLadders_any _ _ _ _).mono ?_
  rintro e q8 ⟨rfl, hbq8⟩
  obtain ⟨hcq8, hfq8⟩ := bcell hbq8
  have hzq8 := bsize hbq8
  (try simp only [World.size_alloc, World.size_setCell] at hzq8)
  have hkq8 : Below q7.heap.size q7 q8 := (by repeat (first | exact Below.refl _ _ | refine bl_alloc ?_ _ | refine bl_drewN ?_ _ | refine bl_trans (by assumption) ?_ | refine bl_set ?_ (by first | omega | (simp; done) | (simp; omega)) _))
  have V := Lib.hid (V.out.keep hkq8)
  have G := Lib.hid (G.out.keep hkq8)
  have kq8_0_0 : q8.cell? ⟨w.heap.size, 0, none⟩ = some (.int .i64 a00) := cell_after hkq8 sq7_0 kq7_0_0
  have kq8_0_1 : q8.cell? ⟨w.heap.size, 1, none⟩ = some (.int .i64 a01) := cell_after hkq8 sq7_0 kq7_0_1
  have kq8_0_2 : q8.cell? ⟨w.heap.size, 2, none⟩ = some (.int .i64 a02) := cell_after hkq8 sq7_0 kq7_0_2
  have sq8_0 : w.heap.size < q8.heap.size := size_after hkq8 sq7_0
  have kq8_1_0 : q8.cell? ⟨q2.heap.size, 0, none⟩ = some (.int .i64 (mkW a00 a01 a02 a1 a2)) := cell_after hkq8 sq7_1 kq7_1_0
  have kq8_1_1 : q8.cell? ⟨q2.heap.size, 1, none⟩ = some (.slice ar1 (mkN a00 a01 a02 a1 a2) cr1) := cell_after hkq8 sq7_1 kq7_1_1
  have sq8_1 : q2.heap.size < q8.heap.size := size_after hkq8 sq7_1
  have kq8_2_0 : q8.cell? ⟨q4.heap.size, 0, none⟩ = some (.int .i64 (mkW a00 a01 a02 a1 a2)) := cell_after hkq8 sq7_2 kq7_2_0
  have kq8_2_1 : q8.cell? ⟨q4.heap.size, 1, none⟩ = some (.slice ag (mkN a00 a01 a02 a1 a2) cg) := cell_after hkq8 sq7_2 kq7_2_1
  have sq8_2 : q4.heap.size < q8.heap.size := size_after hkq8 sq7_2
  have hBq8 : Below w.heap.size w q8 := (by repeat (first | exact HBq7.out | exact Below.refl _ _ | refine bl_alloc ?_ _ | refine bl_drewN ?_ _ | refine bl_trans (by assumption) ?_ | refine bl_set ?_ (by first | omega | (simp; done) | (simp; omega)) _))
  have HBq8 := Lib.hid hBq8
  clear hBq8 hcq8 hfq8 hbq8 hkq8 kq7_0_0 kq7_0_1 kq7_0_2 sq7_0 kq7_1_0 kq7_1_1 sq7_1 kq7_2_0 kq7_2_1 sq7_2
  go_wp2_with fail
  refine (impl_MakePuzzle a00 a01 a02 a1 a2 _).mono ?_
  rintro e q9 ⟨r2, rfl, hR2, hbq9⟩
  obtain ⟨hcq9, hfq9⟩ := bcell hbq9
  have hzq9 := bsize hbq9
  (try simp only [World.size_alloc, World.size_setCell] at hzq9)
  have hkq9 : Below q8.heap.size q8 q9 := (by repeat (first | exact Below.refl _ _ | refine bl_alloc ?_ _ | refine bl_drewN ?_ _ | refine bl_trans (by assumption) ?_ | refine bl_set ?_ (by first | omega | (simp; done) | (simp; omega)) _))
  have V := Lib.hid (V.out.keep hkq9)
  have G := Lib.hid (G.out.keep hkq9)
  obtain ⟨ar2, cr2, rfl⟩ := hR2.toP.shape
  have kq9_0_0 : q9.cell? ⟨w.heap.size, 0, none⟩ = some (.int .i64 a00) := cell_after hkq9 sq8_0 kq8_0_0
  have kq9_0_1 : q9.cell? ⟨w.heap.size, 1, none⟩ = some (.int .i64 a01) := cell_after hkq9 sq8_0 kq8_0_1
  have kq9_0_2 : q9.cell? ⟨w.heap.size, 2, none⟩ = some (.int .i64 a02) := cell_after hkq9 sq8_0 kq8_0_2
  have sq9_0 : w.heap.size < q9.heap.size := size_after hkq9 sq8_0
  have kq9_1_0 : q9.cell? ⟨q2.heap.size, 0, none⟩ = some (.int .i64 (mkW a00 a01 a02 a1 a2)) := cell_after hkq9 sq8_1 kq8_1_0
  have kq9_1_1 : q9.cell? ⟨q2.heap.size, 1, none⟩ = some (.slice ar1 (mkN a00 a01 a02 a1 a2) cr1) := cell_after hkq9 sq8_1 kq8_1_1
  have sq9_1 : q2.heap.size < q9.heap.size := size_after hkq9 sq8_1
  have kq9_2_0 : q9.cell? ⟨q4.heap.size, 0, none⟩ = some (.int .i64 (mkW a00 a01 a02 a1 a2)) := cell_after hkq9 sq8_2 kq8_2_0
  have kq9_2_1 : q9.cell? ⟨q4.heap.size, 1, none⟩ = some (.slice ag (mkN a00 a01 a02 a1 a2) cg) := cell_after hkq9 sq8_2 kq8_2_1
  have sq9_2 : q4.heap.size < q9.heap.size := size_after hkq9 sq8_2
  have hBq9 : Below w.heap.size w q9 := (by repeat (first | exact HBq8.out | exact Below.refl _ _ | refine bl_alloc ?_ _ | refine bl_drewN ?_ _ | refine bl_trans (by assumption) ?_ | refine bl_set ?_ (by first | omega | (simp; done) | (simp; omega)) _))
  have HBq9 := Lib.hid hBq9
  clear hBq9 hcq9 hfq9 hbq9 hkq9 kq8_0_0 kq8_0_1 kq8_0_2 sq8_0 kq8_1_0 kq8_1_1 sq8_1 kq8_2_0 kq8_2_1 sq8_2
  have HR := Lib.hid hR2
  clear hR2
  go_wp2_with fail
  refine (eqPuzzle_any (mkW a00 a01 a02 a1 a2) _ _ (mkN a00 a01 a02 a1 a2) (mkF a00 a01 a02 a2) _ (HR.out.toP.keep (by repeat (first | exact Below.refl _ _ | refine bl_alloc ?_ _ | refine bl_drewN ?_ _ | refine bl_trans (by assumption) ?_ | refine bl_set ?_ (by first | omega | (simp; done) | (simp; omega)) _))) (V.out.toP.keep (by repeat (first | exact Below.refl _ _ | refine bl_alloc ?_ _ | refine bl_drewN ?_ _ | refine bl_trans (by assumption) ?_ | refine bl_set ?_ (by first | omega | (simp; done) | (simp; omega)) _)))).mono ?_
  rintro e q10 ⟨rfl, hbq10⟩
  obtain ⟨hcq10, hfq10⟩ := bcell hbq10
  have hzq10 := bsize hbq10
  (try simp only [World.size_alloc, World.size_setCell] at hzq10)
  have hkq10 : Below q9.heap.size q9 q10 := (by repeat (first | exact Below.refl _ _ | refine bl_alloc ?_ _ | refine bl_drewN ?_ _ | refine bl_trans (by assumption) ?_ | refine bl_set ?_ (by first | omega | (simp; done) | (simp; omega)) _))
  have V := Lib.hid (V.out.keep hkq10)
  have G := Lib.hid (G.out.keep hkq10)
  have kq10_0_0 : q10.cell? ⟨w.heap.size, 0, none⟩ = some (.int .i64 a00) := cell_after hkq10 sq9_0 kq9_0_0
  have kq10_0_1 : q10.cell? ⟨w.heap.size, 1, none⟩ = some (.int .i64 a01) := cell_after hkq10 sq9_0 kq9_0_1
  have kq10_0_2 : q10.cell? ⟨w.heap.size, 2, none⟩ = some (.int .i64 a02) := cell_after hkq10 sq9_0 kq9_0_2
  have sq10_0 : w.heap.size < q10.heap.size := size_after hkq10 sq9_0
  have kq10_1_0 : q10.cell? ⟨q2.heap.size, 0, none⟩ = some (.int .i64 (mkW a00 a01 a02 a1 a2)) := cell_after hkq10 sq9_1 kq9_1_0
  have kq10_1_1 : q10.cell? ⟨q2.heap.size, 1, none⟩ = some (.slice ar1 (mkN a00 a01 a02 a1 a2) cr1) := cell_after hkq10 sq9_1 kq9_1_1
  have sq10_1 : q2.heap.size < q10.heap.size := size_after hkq10 sq9_1
  have kq10_2_0 : q10.cell? ⟨q4.heap.size, 0, none⟩ = some (.int .i64 (mkW a00 a01 a02 a1 a2)) := cell_after hkq10 sq9_2 kq9_2_0
  have kq10_2_1 : q10.cell? ⟨q4.heap.size, 1, none⟩ = some (.slice ag (mkN a00 a01 a02 a1 a2) cg) := cell_after hkq10 sq9_2 kq9_2_1
  have sq10_2 : q4.heap.size < q10.heap.size := size_after hkq10 sq9_2
  have kq10_3_0 : q10.cell? ⟨q9.heap.size, 0, none⟩ = some (.int .i64 (mkW a00 a01 a02 a1 a2)) := by rw [hcq10 _ _ (by first | (simp; done) | omega | (simp; omega))]; first | assumption | (simp [go_sem]; done) | (simp [go_sem, kq9_0_0, kq9_0_1, kq9_0_2, kq9_1_0, kq9_1_1, kq9_2_0, kq9_2_1]; done) | (simp [go_sem, *]; done)
  have kq10_3_1 : q10.cell? ⟨q9.heap.size, 1, none⟩ = some (.slice ar2 (mkN a00 a01 a02 a1 a2) cr2) := by rw [hcq10 _ _ (by first | (simp; done) | omega | (simp; omega))]; first | assumption | (simp [go_sem]; done) | (simp [go_sem, kq9_0_0, kq9_0_1, kq9_0_2, kq9_1_0, kq9_1_1, kq9_2_0, kq9_2_1]; done) | (simp [go_sem, *]; done)
  have sq10_3 : q9.heap.size < q10.heap.size := by first | omega | (simp at *; omega)
  have hBq10 : Below w.heap.size w q10 := (by repeat (first | exact HBq9.out | exact Below.refl _ _ | refine bl_alloc ?_ _ | refine bl_drewN ?_ _ | refine bl_trans (by assumption) ?_ | refine bl_set ?_ (by first | omega | (simp; done) | (simp; omega)) _))
  have HBq10 := Lib.hid hBq10
  clear hBq10 hcq10 hfq10 hbq10 hkq10 kq9_0_0 kq9_0_1 kq9_0_2 sq9_0 kq9_1_0 kq9_1_1 sq9_1 kq9_2_0 kq9_2_1 sq9_2
  go_wp2_with fail
  refine (heldPuzzle_any (mkW a00 a01 a02 a1 a2) _ (mkN a00 a01 a02 a1 a2) _ G.out.toP hNb).mono ?_
  rintro e q11 ⟨rfl, hbq11⟩
  obtain ⟨hcq11, hfq11⟩ := bcell hbq11
  have hzq11 := bsize hbq11
  (try simp only [World.size_alloc, World.size_setCell] at hzq11)
  have hkq11 : Below q10.heap.size q10 q11 := (by repeat (first | exact Below.refl _ _ | refine bl_alloc ?_ _ | refine bl_drewN ?_ _ | refine bl_trans (by assumption) ?_ | refine bl_set ?_ (by first | omega | (simp; done) | (simp; omega)) _))
  have V := Lib.hid (V.out.keep hkq11)
  have G := Lib.hid (G.out.keep hkq11)
  have kq11_0_0 : q11.cell? ⟨w.heap.size, 0, none⟩ = some (.int .i64 a00) := cell_after hkq11 sq10_0 kq10_0_0
  have kq11_0_1 : q11.cell? ⟨w.heap.size, 1, none⟩ = some (.int .i64 a01) := cell_after hkq11 sq10_0 kq10_0_1
  have kq11_0_2 : q11.cell? ⟨w.heap.size, 2, none⟩ = some (.int .i64 a02) := cell_after hkq11 sq10_0 kq10_0_2
  have sq11_0 : w.heap.size < q11.heap.size := size_after hkq11 sq10_0
  have kq11_1_0 : q11.cell? ⟨q2.heap.size, 0, none⟩ = some (.int .i64 (mkW a00 a01 a02 a1 a2)) := cell_after hkq11 sq10_1 kq10_1_0
  have kq11_1_1 : q11.cell? ⟨q2.heap.size, 1, none⟩ = some (.slice ar1 (mkN a00 a01 a02 a1 a2) cr1) := cell_after hkq11 sq10_1 kq10_1_1
  have sq11_1 : q2.heap.size < q11.heap.size := size_after hkq11 sq10_1
  have kq11_2_0 : q11.cell? ⟨q4.heap.size, 0, none⟩ = some (.int .i64 (mkW a00 a01 a02 a1 a2)) := cell_after hkq11 sq10_2 kq10_2_0
  have kq11_2_1 : q11.cell? ⟨q4.heap.size, 1, none⟩ = some (.slice ag (mkN a00 a01 a02 a1 a2) cg) := cell_after hkq11 sq10_2 kq10_2_1
  have sq11_2 : q4.heap.size < q11.heap.size := size_after hkq11 sq10_2
  have kq11_3_0 : q11.cell? ⟨q9.heap.size, 0, none⟩ = some (.int .i64 (mkW a00 a01 a02 a1 a2)) := cell_after hkq11 sq10_3 kq10_3_0
  have kq11_3_1 : q11.cell? ⟨q9.heap.size, 1, none⟩ = some (.slice ar2 (mkN a00 a01 a02 a1 a2) cr2) := cell_after hkq11 sq10_3 kq10_3_1
  have sq11_3 : q9.heap.size < q11.heap.size := size_after hkq11 sq10_3
  have hBq11 : Below w.heap.size w q11 := (by repeat (first | exact HBq10.out | exact Below.refl _ _ | refine bl_alloc ?_ _ | refine bl_drewN ?_ _ | refine bl_trans (by assumption) ?_ | refine bl_set ?_ (by first | omega | (simp; done) | (simp; omega)) _))
  have HBq11 := Lib.hid hBq11
  clear hBq11 hcq11 hfq11 hbq11 hkq11 kq10_0_0 kq10_0_1 kq10_0_2 sq10_0 kq10_1_0 kq10_1_1 sq10_1 kq10_2_0 kq10_2_1 sq10_2 kq10_3_0 kq10_3_1 sq10_3
  go_wp2
  go_ret
  exact ⟨rfl, (by repeat (first | exact HBq11.out | exact Below.refl _ _ | refine bl_alloc ?_ _ | refine bl_drewN ?_ _ | refine bl_trans (by assumption) ?_ | refine bl_set ?_ (by first | omega | (simp; done) | (simp; omega)) _))⟩

set_option maxRecDepth 100000 in
theorem lifted (os : Os) (started : os.Started) (H : Type) (enc : TypeId × Value → H) :
    ReturnsInHanded {} Try.checked os 6 .any (Rows.fnExactMakePuzzleSpec.pre6 enc Try.prog Try.f6 Rows.fnExactMakePuzzleRow.domain false) (Rows.fnExactMakePuzzleSpec.post enc Try.prog Try.f6 false true false false) := by
  refine returnsInHanded_of_change (C := Try.checked) own started (by kernel_rfl) Try.func6
    (ChangeSpec.witness6 (enc := enc) (C := Try.checked) false ⟨#[], #[.agg #[.int .i64 0, .int .i64 0, .int .i64 0], .int .i64 0, .int .i64 0], []⟩ 8 (by kernel_rfl) (by kernel_rfl) (by kernel_rfl) (by kernel_rfl)) ?_
  intro W base args ds gs before hval0 hW hcnd _
  have hval : ∀ (j : Nat) t v, Try.f6.params[j]? = some t → args[j]? = some v → Value.okWide Try.prog W .any base t v := hval0
  have hW' := hW
  obtain ⟨p, q, hA0, hV, rfl, hfz, hnd⟩ := hW
  have hA : DataW.TrodAll enc Try.prog W 0 (fun _ => true) true Try.f6.params.toList args.toList ds p := hA0
  rw [Try.params6] at hA hval
  obtain ⟨v0, vs0, d0, ds0, p0, q0, hargs, rfl, rfl, h0, r0⟩ := trodAll_cons hA
  obtain ⟨v1, vs1, d1, ds1, p1, q1, rfl, rfl, rfl, h1, r1⟩ := trodAll_cons r0
  obtain ⟨v2, vs2, d2, ds2, p2, q2, rfl, rfl, rfl, h2, r2⟩ := trodAll_cons r1
  obtain ⟨rfl, rfl, rfl⟩ := trodAll_nil r2
  obtain rfl : args = #[v0, v1, v2] := by cases args; simp_all
  obtain ⟨rfl, rfl⟩ := trodVars_none hV
  have k0 := h0
  have lt0 : ∀ x ∈ p0, x.block < W.heap.size := by obtain ⟨m, hm⟩ := k0; exact DataW.trod_lt m _ _ _ hm
  have k1 := h1
  have lt1 : ∀ x ∈ p1, x.block < W.heap.size := by obtain ⟨m, hm⟩ := k1; exact DataW.trod_lt m _ _ _ hm
  have k2 := h2
  have lt2 : ∀ x ∈ p2, x.block < W.heap.size := by obtain ⟨m, hm⟩ := k2; exact DataW.trod_lt m _ _ _ hm
  obtain ⟨c00, c01, c02, y00, y01, y02, m0, rfl, rfl, rfl, hy00, hy01, hy02⟩ := open_agg3 Try.underlying35 (by kernel_rfl) (by kernel_rfl) (hval 0 35 v0 rfl rfl) h0
  obtain ⟨a00, e00, rfl, w00⟩ := DataW.trod_int Try.underlying3 hy00
  obtain ⟨a01, e01, rfl, w01⟩ := DataW.trod_int Try.underlying3 hy01
  obtain ⟨a02, e02, rfl, w02⟩ := DataW.trod_int Try.underlying3 hy02
  simp at e00 e01 e02
  subst e00 e01 e02
  obtain ⟨a1, rfl, rfl, rfl, w1⟩ := open_int Try.underlying3 (hval 1 3 v1 rfl rfl) h1
  obtain ⟨a2, rfl, rfl, rfl, w2⟩ := open_int Try.underlying3 (hval 2 3 v2 rfl rfl) h2
  clear hA0 hval0
  refine (walk a00 a01 a02 a1 a2 w00 w01 w02 w1 w2 W ).mono fun e W' ⟨he, bel⟩ => ?_
  subst he
  exact ⟨_, rfl, _, _, _, [], _, [], hW', trodAll_mk1 (shut_bool Try.underlying4 _), (trodAll_cons_mk (Below.trod laidOut (by kernel_rfl) (of_decide_eq_true (by kernel_rfl)) k0 bel lt0) (trodAll_cons_mk (Below.trod laidOut (by kernel_rfl) (of_decide_eq_true (by kernel_rfl)) k1 bel lt1) (trodAll_cons_mk (Below.trod laidOut (by kernel_rfl) (of_decide_eq_true (by kernel_rfl)) k2 bel lt2) trodAll_mk0))), rfl, bel.frame _, fun h => by cases h⟩

theorem over : Rows.fnExactMakePuzzleRow.holds Try.pinned (OpenSpec.ofChange Rows.fnExactMakePuzzleSpec) :=
  OpenClaim.holds_of_wide 6 Try.f6 rfl rfl rfl rfl rfl rfl rfl ⟨rfl, rfl, rfl, rfl, rfl⟩ rfl rfl rfl rfl rfl (by kernel_rfl) Try.func6 (by simp only [joinedFacts, make, lifts, may, Bool.and_true]; kernel_rfl)
    (of_decide_eq_true (by kernel_rfl)) (by unfold Func.isWrapper; first | (rw [if_pos (by decide +kernel)]; kernel_rfl) | (rw [if_neg (by decide +kernel)]; exact ⟨rfl, rfl⟩))
    (fun os started H enc _ => lifted os started H enc)

theorem proved : Rows.FnExactMakePuzzleSaid := over
#print axioms proved
end Go.Proofs.Ytahcfjpplkemdaa.fnExactMakePuzzle

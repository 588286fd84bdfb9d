/- The law 'FnExactFirstDesk' holds for every input. -/
import Derived.Test.YtahcfjpplkemdaaDKL
import Derived.Test.YtahcfjpplkemdaaO
import Derived.ProofKit
import Derived.OpenShut
import Derived.ShutString
import Derived.ChangeOld
import Derived.Lib.SmallJoins
namespace Go.Proofs.Ytahcfjpplkemdaa.fnExactFirstDesk
open Go.ChangeShapes Go.WideShapes Go.ChangeAt Go.RowKit Go.Joins
open Go.ChangeMaps (open_string shut_string)
set_option linter.unusedVariables false
set_option linter.unusedSimpArgs false
theorem own : ownKnob Try.prog.godebug = none := by kernel_rfl
theorem laidOut : laidOutB Try.prog = true := by kernel_rfl

set_option maxHeartbeats 1000000 in
theorem walk  (w : World) :
    Calls Try.prog 3 #[] w fun e w' => e = .returned (.bool true) ∧ Below w.heap.size w w' := by
  go_enter Try.func3, Try.ntmps3
  go_wp2_with fail
  refine (spec_FirstDesk _).mono ?_
  rintro e q1 ⟨r1, rfl, hR1, hbq1⟩
  obtain ⟨hcq1, hfq1⟩ := bcell hbq1
  have hzq1 := bsize hbq1
  (try simp only [World.size_alloc, World.size_setCell] at hzq1)
  obtain ⟨ar1, cr1, rfl⟩ := hR1.toP.shape
  have hBq1 : Below w.heap.size w q1 := (by repeat (first | exact Below.refl _ _ | refine bl_alloc ?_ _ | refine bl_drewN ?_ _ | refine bl_trans (by assumption) ?_ | refine bl_set ?_ (by first | omega | (simp; done) | (simp; omega)) _))
  have HBq1 := Lib.hid hBq1
  clear hBq1 hcq1 hfq1 hbq1
  have lt_v0 := Lib.hid hR1.lt
  have V := Lib.hid hR1
  clear hR1
  go_wp2_with fail
  refine (impl_FirstDesk _).mono ?_
  rintro e q2 ⟨g0, rfl, hG, hbq2⟩
  obtain ⟨hcq2, hfq2⟩ := bcell hbq2
  have hzq2 := bsize hbq2
  (try simp only [World.size_alloc, World.size_setCell] at hzq2)
  have hkq2 : Below q1.heap.size q1 q2 := (by repeat (first | exact Below.refl _ _ | refine bl_alloc ?_ _ | refine bl_drewN ?_ _ | refine bl_trans (by assumption) ?_ | refine bl_set ?_ (by first | omega | (simp; done) | (simp; omega)) _))
  have V := Lib.hid (V.out.keep hkq2)
  have hG := hG.lower (C := q1.heap.size + 1) (by first | omega | (simp; done) | (simp; omega) | (simp at *; omega))
  have kq2_0_0 : q2.cell? ⟨q1.heap.size, 0, none⟩ = some (.int .i64 56) := by rw [hcq2 _ _ (by first | (simp; done) | omega | (simp; omega))]; first | assumption | (simp [go_sem]; done) | (simp [go_sem]; done) | (simp [go_sem, *]; done)
  have kq2_0_1 : q2.cell? ⟨q1.heap.size, 1, none⟩ = some (.int .i64 105) := by rw [hcq2 _ _ (by first | (simp; done) | omega | (simp; omega))]; first | assumption | (simp [go_sem]; done) | (simp [go_sem]; done) | (simp [go_sem, *]; done)
  have kq2_0_2 : q2.cell? ⟨q1.heap.size, 2, none⟩ = some (.int .i64 42) := by rw [hcq2 _ _ (by first | (simp; done) | omega | (simp; omega))]; first | assumption | (simp [go_sem]; done) | (simp [go_sem]; done) | (simp [go_sem, *]; done)
  have kq2_0_3 : q2.cell? ⟨q1.heap.size, 3, none⟩ = some (.int .i64 6) := by rw [hcq2 _ _ (by first | (simp; done) | omega | (simp; omega))]; first | assumption | (simp [go_sem]; done) | (simp [go_sem]; done) | (simp [go_sem, *]; done)
  have kq2_0_4 : q2.cell? ⟨q1.heap.size, 4, none⟩ = some (.slice ar1 3 cr1) := by rw [hcq2 _ _ (by first | (simp; done) | omega | (simp; omega))]; first | assumption | (simp [go_sem]; done) | (simp [go_sem]; done) | (simp [go_sem, *]; done)
  have kq2_0_5 : q2.cell? ⟨q1.heap.size, 5, none⟩ = some (.int .i64 2) := by rw [hcq2 _ _ (by first | (simp; done) | omega | (simp; omega))]; first | assumption | (simp [go_sem]; done) | (simp [go_sem]; done) | (simp [go_sem, *]; done)
  have kq2_0_6 : q2.cell? ⟨q1.heap.size, 6, none⟩ = some (.int .i64 4) := by rw [hcq2 _ _ (by first | (simp; done) | omega | (simp; omega))]; first | assumption | (simp [go_sem]; done) | (simp [go_sem]; done) | (simp [go_sem, *]; done)
  have kq2_0_7 : q2.cell? ⟨q1.heap.size, 7, none⟩ = some (.int .i64 3) := by rw [hcq2 _ _ (by first | (simp; done) | omega | (simp; omega))]; first | assumption | (simp [go_sem]; done) | (simp [go_sem]; done) | (simp [go_sem, *]; done)
  have kq2_0_8 : q2.cell? ⟨q1.heap.size, 8, none⟩ = some (.int .i64 5) := by rw [hcq2 _ _ (by first | (simp; done) | omega | (simp; omega))]; first | assumption | (simp [go_sem]; done) | (simp [go_sem]; done) | (simp [go_sem, *]; done)
  have kq2_0_9 : q2.cell? ⟨q1.heap.size, 9, none⟩ = some (.int .i64 1000) := by rw [hcq2 _ _ (by first | (simp; done) | omega | (simp; omega))]; first | assumption | (simp [go_sem]; done) | (simp [go_sem]; done) | (simp [go_sem, *]; done)
  have kq2_0_10 : q2.cell? ⟨q1.heap.size, 10, none⟩ = some (.int .i64 123) := by rw [hcq2 _ _ (by first | (simp; done) | omega | (simp; omega))]; first | assumption | (simp [go_sem]; done) | (simp [go_sem]; done) | (simp [go_sem, *]; done)
  have kq2_0_11 : q2.cell? ⟨q1.heap.size, 11, none⟩ = some (.int .i64 127) := by rw [hcq2 _ _ (by first | (simp; done) | omega | (simp; omega))]; first | assumption | (simp [go_sem]; done) | (simp [go_sem]; done) | (simp [go_sem, *]; done)
  have sq2_0 : q1.heap.size < q2.heap.size := by first | omega | (simp at *; omega)
  have hBq2 : Below w.heap.size w q2 := (by repeat (first | exact HBq1.out | exact Below.refl _ _ | refine bl_alloc ?_ _ | refine bl_drewN ?_ _ | refine bl_trans (by assumption) ?_ | refine bl_set ?_ (by first | omega | (simp; done) | (simp; omega)) _))
  have HBq2 := Lib.hid hBq2
  clear hBq2 hcq2 hfq2 hbq2 hkq2
  obtain ⟨ag, cg, rfl⟩ := hG.toP.shape
  have ge_g0 := Lib.hid hG.ge
  have lt_g0 := Lib.hid hG.lt
  have G := Lib.hid hG
  clear hG
  go_wp2_with fail
  refine (eqDesk_any 56 105 42 6 2 4 3 5 1000 123 127 _ _ 3 fdF _ (G.out.toP.keep (by repeat (first | exact Below.refl _ _ | refine bl_alloc ?_ _ | refine bl_drewN ?_ _ | refine bl_trans (by assumption) ?_ | refine bl_set ?_ (by first | omega | (simp; done) | (simp; omega)) _))) (V.out.toP.keep (by repeat (first | exact Below.refl _ _ | refine bl_alloc ?_ _ | refine bl_drewN ?_ _ | refine bl_trans (by assumption) ?_ | refine bl_set ?_ (by first | omega | (simp; done) | (simp; omega)) _)))).mono ?_
  rintro e q3 ⟨rfl, hbq3⟩
  obtain ⟨hcq3, hfq3⟩ := bcell hbq3
  have hzq3 := bsize hbq3
  (try simp only [World.size_alloc, World.size_setCell] at hzq3)
  have hkq3 : Below q2.heap.size q2 q3 := (by repeat (first | exact Below.refl _ _ | refine bl_alloc ?_ _ | refine bl_drewN ?_ _ | refine bl_trans (by assumption) ?_ | refine bl_set ?_ (by first | omega | (simp; done) | (simp; omega)) _))
  have V := Lib.hid (V.out.keep hkq3)
  have G := Lib.hid (G.out.keep hkq3)
  have kq3_0_0 : q3.cell? ⟨q1.heap.size, 0, none⟩ = some (.int .i64 56) := cell_after hkq3 sq2_0 kq2_0_0
  have kq3_0_1 : q3.cell? ⟨q1.heap.size, 1, none⟩ = some (.int .i64 105) := cell_after hkq3 sq2_0 kq2_0_1
  have kq3_0_2 : q3.cell? ⟨q1.heap.size, 2, none⟩ = some (.int .i64 42) := cell_after hkq3 sq2_0 kq2_0_2
  have kq3_0_3 : q3.cell? ⟨q1.heap.size, 3, none⟩ = some (.int .i64 6) := cell_after hkq3 sq2_0 kq2_0_3
  have kq3_0_4 : q3.cell? ⟨q1.heap.size, 4, none⟩ = some (.slice ar1 3 cr1) := cell_after hkq3 sq2_0 kq2_0_4
  have kq3_0_5 : q3.cell? ⟨q1.heap.size, 5, none⟩ = some (.int .i64 2) := cell_after hkq3 sq2_0 kq2_0_5
  have kq3_0_6 : q3.cell? ⟨q1.heap.size, 6, none⟩ = some (.int .i64 4) := cell_after hkq3 sq2_0 kq2_0_6
  have kq3_0_7 : q3.cell? ⟨q1.heap.size, 7, none⟩ = some (.int .i64 3) := cell_after hkq3 sq2_0 kq2_0_7
  have kq3_0_8 : q3.cell? ⟨q1.heap.size, 8, none⟩ = some (.int .i64 5) := cell_after hkq3 sq2_0 kq2_0_8
  have kq3_0_9 : q3.cell? ⟨q1.heap.size, 9, none⟩ = some (.int .i64 1000) := cell_after hkq3 sq2_0 kq2_0_9
  have kq3_0_10 : q3.cell? ⟨q1.heap.size, 10, none⟩ = some (.int .i64 123) := cell_after hkq3 sq2_0 kq2_0_10
  have kq3_0_11 : q3.cell? ⟨q1.heap.size, 11, none⟩ = some (.int .i64 127) := cell_after hkq3 sq2_0 kq2_0_11
  have sq3_0 : q1.heap.size < q3.heap.size := size_after hkq3 sq2_0
  have kq3_1_0 : q3.cell? ⟨q2.heap.size, 0, none⟩ = some (.int .i64 56) := by rw [hcq3 _ _ (by first | (simp; done) | omega | (simp; omega))]; first | assumption | (simp [go_sem]; done) | (simp [go_sem, kq2_0_0, kq2_0_1, kq2_0_2, kq2_0_3, kq2_0_4, kq2_0_5, kq2_0_6, kq2_0_7, kq2_0_8, kq2_0_9, kq2_0_10, kq2_0_11]; done) | (simp [go_sem, *]; done)
  have kq3_1_1 : q3.cell? ⟨q2.heap.size, 1, none⟩ = some (.int .i64 105) := by rw [hcq3 _ _ (by first | (simp; done) | omega | (simp; omega))]; first | assumption | (simp [go_sem]; done) | (simp [go_sem, kq2_0_0, kq2_0_1, kq2_0_2, kq2_0_3, kq2_0_4, kq2_0_5, kq2_0_6, kq2_0_7, kq2_0_8, kq2_0_9, kq2_0_10, kq2_0_11]; done) | (simp [go_sem, *]; done)
  have kq3_1_2 : q3.cell? ⟨q2.heap.size, 2, none⟩ = some (.int .i64 42) := by rw [hcq3 _ _ (by first | (simp; done) | omega | (simp; omega))]; first | assumption | (simp [go_sem]; done) | (simp [go_sem, kq2_0_0, kq2_0_1, kq2_0_2, kq2_0_3, kq2_0_4, kq2_0_5, kq2_0_6, kq2_0_7, kq2_0_8, kq2_0_9, kq2_0_10, kq2_0_11]; done) | (simp [go_sem, *]; done)
  have kq3_1_3 : q3.cell? ⟨q2.heap.size, 3, none⟩ = some (.int .i64 6) := by rw [hcq3 _ _ (by first | (simp; done) | omega | (simp; omega))]; first | assumption | (simp [go_sem]; done) | (simp [go_sem, kq2_0_0, kq2_0_1, kq2_0_2, kq2_0_3, kq2_0_4, kq2_0_5, kq2_0_6, kq2_0_7, kq2_0_8, kq2_0_9, kq2_0_10, kq2_0_11]; done) | (simp [go_sem, *]; done)
  have kq3_1_4 : q3.cell? ⟨q2.heap.size, 4, none⟩ = some (.slice ag 3 cg) := by rw [hcq3 _ _ (by first | (simp; done) | omega | (simp; omega))]; first | assumption | (simp [go_sem]; done) | (simp [go_sem, kq2_0_0, kq2_0_1, kq2_0_2, kq2_0_3, kq2_0_4, kq2_0_5, kq2_0_6, kq2_0_7, kq2_0_8, kq2_0_9, kq2_0_10, kq2_0_11]; done) | (simp [go_sem, *]; done)
  have kq3_1_5 : q3.cell? ⟨q2.heap.size, 5, none⟩ = some (.int .i64 2) := by rw [hcq3 _ _ (by first | (simp; done) | omega | (simp; omega))]; first | assumption | (simp [go_sem]; done) | (simp [go_sem, kq2_0_0, kq2_0_1, kq2_0_2, kq2_0_3, kq2_0_4, kq2_0_5, kq2_0_6, kq2_0_7, kq2_0_8, kq2_0_9, kq2_0_10, kq2_0_11]; done) | (simp [go_sem, *]; done)
  have kq3_1_6 : q3.cell? ⟨q2.heap.size, 6, none⟩ = some (.int .i64 4) := by rw [hcq3 _ _ (by first | (simp; done) | omega | (simp; omega))]; first | assumption | (simp [go_sem]; done) | (simp [go_sem, kq2_0_0, kq2_0_1, kq2_0_2, kq2_0_3, kq2_0_4, kq2_0_5, kq2_0_6, kq2_0_7, kq2_0_8, kq2_0_9, kq2_0_10, kq2_0_11]; done) | (simp [go_sem, *]; done)
  have kq3_1_7 : q3.cell? ⟨q2.heap.size, 7, none⟩ = some (.int .i64 3) := by rw [hcq3 _ _ (by first | (simp; done) | omega | (simp; omega))]; first | assumption | (simp [go_sem]; done) | (simp [go_sem, kq2_0_0, kq2_0_1, kq2_0_2, kq2_0_3, kq2_0_4, kq2_0_5, kq2_0_6, kq2_0_7, kq2_0_8, kq2_0_9, kq2_0_10, kq2_0_11]; done) | (simp [go_sem, *]; done)
  have kq3_1_8 : q3.cell? ⟨q2.heap.size, 8, none⟩ = some (.int .i64 5) := by rw [hcq3 _ _ (by first | (simp; done) | omega | (simp; omega))]; first | assumption | (simp [go_sem]; done) | (simp [go_sem, kq2_0_0, kq2_0_1, kq2_0_2, kq2_0_3, kq2_0_4, kq2_0_5, kq2_0_6, kq2_0_7, kq2_0_8, kq2_0_9, kq2_0_10, kq2_0_11]; done) | (simp [go_sem, *]; done)
  have kq3_1_9 : q3.cell? ⟨q2.heap.size, 9, none⟩ = some (.int .i64 1000) := by rw [hcq3 _ _ (by first | (simp; done) | omega | (simp; omega))]; first | assumption | (simp [go_sem]; done) | (simp [go_sem, kq2_0_0, kq2_0_1, kq2_0_2, kq2_0_3, kq2_0_4, kq2_0_5, kq2_0_6, kq2_0_7, kq2_0_8, kq2_0_9, kq2_0_10, kq2_0_11]; done) | (simp [go_sem, *]; done)
  have kq3_1_10 : q3.cell? ⟨q2.heap.size, 10, none⟩ = some (.int .i64 123) := by rw [hcq3 _ _ (by first | (simp; done) | omega | (simp; omega))]; first | assumption | (simp [go_sem]; done) | (simp [go_sem, kq2_0_0, kq2_0_1, kq2_0_2, kq2_0_3, kq2_0_4, kq2_0_5, kq2_0_6, kq2_0_7, kq2_0_8, kq2_0_9, kq2_0_10, kq2_0_11]; done) | (simp [go_sem, *]; done)
  have kq3_1_11 : q3.cell? ⟨q2.heap.size, 11, none⟩ = some (.int .i64 127) := by rw [hcq3 _ _ (by first | (simp; done) | omega | (simp; omega))]; first | assumption | (simp [go_sem]; done) | (simp [go_sem, kq2_0_0, kq2_0_1, kq2_0_2, kq2_0_3, kq2_0_4, kq2_0_5, kq2_0_6, kq2_0_7, kq2_0_8, kq2_0_9, kq2_0_10, kq2_0_11]; done) | (simp [go_sem, *]; done)
  have sq3_1 : q2.heap.size < q3.heap.size := by first | omega | (simp at *; omega)
  have hBq3 : Below w.heap.size w q3 := (by repeat (first | exact HBq2.out | exact Below.refl _ _ | refine bl_alloc ?_ _ | refine bl_drewN ?_ _ | refine bl_trans (by assumption) ?_ | refine bl_set ?_ (by first | omega | (simp; done) | (simp; omega)) _))
  have HBq3 := Lib.hid hBq3
  clear hBq3 hcq3 hfq3 hbq3 hkq3 kq2_0_0 kq2_0_1 kq2_0_2 kq2_0_3 kq2_0_4 kq2_0_5 kq2_0_6 kq2_0_7 kq2_0_8 kq2_0_9 kq2_0_10 kq2_0_11 sq2_0
  go_wp2_with fail
  refine (markDesk_any 56 105 42 6 2 4 3 5 1000 123 127 _ 3 _ _ _ G.out (by omega)).mono ?_
  rintro e q4 ⟨rfl, hO_, hg_⟩
  have hzq4 := hg_.size
  have nq4_0_0 := cell_far hg_ sq3_0 (box_ne ge_g0.out (by omega)) kq3_0_0
  have nq4_0_1 := cell_far hg_ sq3_0 (box_ne ge_g0.out (by omega)) kq3_0_1
  have nq4_0_2 := cell_far hg_ sq3_0 (box_ne ge_g0.out (by omega)) kq3_0_2
  have nq4_0_3 := cell_far hg_ sq3_0 (box_ne ge_g0.out (by omega)) kq3_0_3
  have nq4_0_4 := cell_far hg_ sq3_0 (box_ne ge_g0.out (by omega)) kq3_0_4
  have nq4_0_5 := cell_far hg_ sq3_0 (box_ne ge_g0.out (by omega)) kq3_0_5
  have nq4_0_6 := cell_far hg_ sq3_0 (box_ne ge_g0.out (by omega)) kq3_0_6
  have nq4_0_7 := cell_far hg_ sq3_0 (box_ne ge_g0.out (by omega)) kq3_0_7
  have nq4_0_8 := cell_far hg_ sq3_0 (box_ne ge_g0.out (by omega)) kq3_0_8
  have nq4_0_9 := cell_far hg_ sq3_0 (box_ne ge_g0.out (by omega)) kq3_0_9
  have nq4_0_10 := cell_far hg_ sq3_0 (box_ne ge_g0.out (by omega)) kq3_0_10
  have nq4_0_11 := cell_far hg_ sq3_0 (box_ne ge_g0.out (by omega)) kq3_0_11
  have nsq4_0 := Nat.lt_of_lt_of_le sq3_0 hzq4
  have nq4_1_0 := cell_far hg_ sq3_1 (box_ne' lt_g0.out (by omega)) kq3_1_0
  have nq4_1_1 := cell_far hg_ sq3_1 (box_ne' lt_g0.out (by omega)) kq3_1_1
  have nq4_1_2 := cell_far hg_ sq3_1 (box_ne' lt_g0.out (by omega)) kq3_1_2
  have nq4_1_3 := cell_far hg_ sq3_1 (box_ne' lt_g0.out (by omega)) kq3_1_3
  have nq4_1_4 := cell_far hg_ sq3_1 (box_ne' lt_g0.out (by omega)) kq3_1_4
  have nq4_1_5 := cell_far hg_ sq3_1 (box_ne' lt_g0.out (by omega)) kq3_1_5
  have nq4_1_6 := cell_far hg_ sq3_1 (box_ne' lt_g0.out (by omega)) kq3_1_6
  have nq4_1_7 := cell_far hg_ sq3_1 (box_ne' lt_g0.out (by omega)) kq3_1_7
  have nq4_1_8 := cell_far hg_ sq3_1 (box_ne' lt_g0.out (by omega)) kq3_1_8
  have nq4_1_9 := cell_far hg_ sq3_1 (box_ne' lt_g0.out (by omega)) kq3_1_9
  have nq4_1_10 := cell_far hg_ sq3_1 (box_ne' lt_g0.out (by omega)) kq3_1_10
  have nq4_1_11 := cell_far hg_ sq3_1 (box_ne' lt_g0.out (by omega)) kq3_1_11
  have nsq4_1 := Nat.lt_of_lt_of_le sq3_1 hzq4
  have V := Lib.hid (V.out.other hg_ (row_ne lt_v0.out ge_g0.out (by omega)))
  have G := Lib.hid hO_
  have HBq4 := Lib.hid (bel_far HBq3.out hg_ ge_g0.out (by omega))
  clear hO_ hg_ kq3_0_0 kq3_0_1 kq3_0_2 kq3_0_3 kq3_0_4 kq3_0_5 kq3_0_6 kq3_0_7 kq3_0_8 kq3_0_9 kq3_0_10 kq3_0_11 sq3_0 kq3_1_0 kq3_1_1 kq3_1_2 kq3_1_3 kq3_1_4 kq3_1_5 kq3_1_6 kq3_1_7 kq3_1_8 kq3_1_9 kq3_1_10 kq3_1_11 sq3_1
  go_wp2_with fail
  refine (heldDesk_any 56 105 42 6 2 4 3 5 1000 123 127 _ 3 _ G.out.toP (by omega)).mono ?_
  rintro e q5 ⟨rfl, hbq5⟩
  obtain ⟨hcq5, hfq5⟩ := bcell hbq5
  have hzq5 := bsize hbq5
  (try simp only [World.size_alloc, World.size_setCell] at hzq5)
  have hkq5 : Below q4.heap.size q4 q5 := (by repeat (first | exact Below.refl _ _ | refine bl_alloc ?_ _ | refine bl_drewN ?_ _ | refine bl_trans (by assumption) ?_ | refine bl_set ?_ (by first | omega | (simp; done) | (simp; omega)) _))
  have V := Lib.hid (V.out.keep hkq5)
  have G := Lib.hid (G.out.keep hkq5)
  have kq5_0_0 : q5.cell? ⟨q1.heap.size, 0, none⟩ = some (.int .i64 56) := cell_after hkq5 nsq4_0 nq4_0_0
  have kq5_0_1 : q5.cell? ⟨q1.heap.size, 1, none⟩ = some (.int .i64 105) := cell_after hkq5 nsq4_0 nq4_0_1
  have kq5_0_2 : q5.cell? ⟨q1.heap.size, 2, none⟩ = some (.int .i64 42) := cell_after hkq5 nsq4_0 nq4_0_2
  have kq5_0_3 : q5.cell? ⟨q1.heap.size, 3, none⟩ = some (.int .i64 6) := cell_after hkq5 nsq4_0 nq4_0_3
  have kq5_0_4 : q5.cell? ⟨q1.heap.size, 4, none⟩ = some (.slice ar1 3 cr1) := cell_after hkq5 nsq4_0 nq4_0_4
  have kq5_0_5 : q5.cell? ⟨q1.heap.size, 5, none⟩ = some (.int .i64 2) := cell_after hkq5 nsq4_0 nq4_0_5
  have kq5_0_6 : q5.cell? ⟨q1.heap.size, 6, none⟩ = some (.int .i64 4) := cell_after hkq5 nsq4_0 nq4_0_6
  have kq5_0_7 : q5.cell? ⟨q1.heap.size, 7, none⟩ = some (.int .i64 3) := cell_after hkq5 nsq4_0 nq4_0_7
  have kq5_0_8 : q5.cell? ⟨q1.heap.size, 8, none⟩ = some (.int .i64 5) := cell_after hkq5 nsq4_0 nq4_0_8
  have kq5_0_9 : q5.cell? ⟨q1.heap.size, 9, none⟩ = some (.int .i64 1000) := cell_after hkq5 nsq4_0 nq4_0_9
  have kq5_0_10 : q5.cell? ⟨q1.heap.size, 10, none⟩ = some (.int .i64 123) := cell_after hkq5 nsq4_0 nq4_0_10
  have kq5_0_11 : q5.cell? ⟨q1.heap.size, 11, none⟩ = some (.int .i64 127) := cell_after hkq5 nsq4_0 nq4_0_11
  have sq5_0 : q1.heap.size < q5.heap.size := size_after hkq5 nsq4_0
  have kq5_1_0 : q5.cell? ⟨q2.heap.size, 0, none⟩ = some (.int .i64 56) := cell_after hkq5 nsq4_1 nq4_1_0
  have kq5_1_1 : q5.cell? ⟨q2.heap.size, 1, none⟩ = some (.int .i64 105) := cell_after hkq5 nsq4_1 nq4_1_1
  have kq5_1_2 : q5.cell? ⟨q2.heap.size, 2, none⟩ = some (.int .i64 42) := cell_after hkq5 nsq4_1 nq4_1_2
  have kq5_1_3 : q5.cell? ⟨q2.heap.size, 3, none⟩ = some (.int .i64 6) := cell_after hkq5 nsq4_1 nq4_1_3
  have kq5_1_4 : q5.cell? ⟨q2.heap.size, 4, none⟩ = some (.slice ag 3 cg) := cell_after hkq5 nsq4_1 nq4_1_4
  have kq5_1_5 : q5.cell? ⟨q2.heap.size, 5, none⟩ = some (.int .i64 2) := cell_after hkq5 nsq4_1 nq4_1_5
  have kq5_1_6 : q5.cell? ⟨q2.heap.size, 6, none⟩ = some (.int .i64 4) := cell_after hkq5 nsq4_1 nq4_1_6
  have kq5_1_7 : q5.cell? ⟨q2.heap.size, 7, none⟩ = some (.int .i64 3) := cell_after hkq5 nsq4_1 nq4_1_7
  have kq5_1_8 : q5.cell? ⟨q2.heap.size, 8, none⟩ = some (.int .i64 5) := cell_after hkq5 nsq4_1 nq4_1_8
  have kq5_1_9 : q5.cell? ⟨q2.heap.size, 9, none⟩ = some (.int .i64 1000) := cell_after hkq5 nsq4_1 nq4_1_9
  have kq5_1_10 : q5.cell? ⟨q2.heap.size, 10, none⟩ = some (.int .i64 123) := cell_after hkq5 nsq4_1 nq4_1_10
  have kq5_1_11 : q5.cell? ⟨q2.heap.size, 11, none⟩ = some (.int .i64 127) := cell_after hkq5 nsq4_1 nq4_1_11
  have sq5_1 : q2.heap.size < q5.heap.size := size_after hkq5 nsq4_1
  have hBq5 : Below w.heap.size w q5 := (by repeat (first | exact HBq4.out | exact Below.refl _ _ | refine bl_alloc ?_ _ | refine bl_drewN ?_ _ | refine bl_trans (by assumption) ?_ | refine bl_set ?_ (by first | omega | (simp; done) | (simp; omega)) _))
  have HBq5 := Lib.hid hBq5
  clear hBq5 hcq5 hfq5 hbq5 hkq5 nq4_0_0 nq4_0_1 nq4_0_2 nq4_0_3 nq4_0_4 nq4_0_5 nq4_0_6 nq4_0_7 nq4_0_8 nq4_0_9 nq4_0_10 nq4_0_11 nsq4_0 nq4_1_0 nq4_1_1 nq4_1_2 nq4_1_3 nq4_1_4 nq4_1_5 nq4_1_6 nq4_1_7 nq4_1_8 nq4_1_9 nq4_1_10 nq4_1_11 nsq4_1
  go_wp2_with fail
  refine (impl_FirstDesk _).mono ?_
  rintro e q6 ⟨r2, rfl, hR2, hbq6⟩
  obtain ⟨hcq6, hfq6⟩ := bcell hbq6
  have hzq6 := bsize hbq6
  (try simp only [World.size_alloc, World.size_setCell] at hzq6)
  have hkq6 : Below q5.heap.size q5 q6 := (by repeat (first | exact Below.refl _ _ | refine bl_alloc ?_ _ | refine bl_drewN ?_ _ | refine bl_trans (by assumption) ?_ | refine bl_set ?_ (by first | omega | (simp; done) | (simp; omega)) _))
  have V := Lib.hid (V.out.keep hkq6)
  have G := Lib.hid (G.out.keep hkq6)
  obtain ⟨ar2, cr2, rfl⟩ := hR2.toP.shape
  have kq6_0_0 : q6.cell? ⟨q1.heap.size, 0, none⟩ = some (.int .i64 56) := cell_after hkq6 sq5_0 kq5_0_0
  have kq6_0_1 : q6.cell? ⟨q1.heap.size, 1, none⟩ = some (.int .i64 105) := cell_after hkq6 sq5_0 kq5_0_1
  have kq6_0_2 : q6.cell? ⟨q1.heap.size, 2, none⟩ = some (.int .i64 42) := cell_after hkq6 sq5_0 kq5_0_2
  have kq6_0_3 : q6.cell? ⟨q1.heap.size, 3, none⟩ = some (.int .i64 6) := cell_after hkq6 sq5_0 kq5_0_3
  have kq6_0_4 : q6.cell? ⟨q1.heap.size, 4, none⟩ = some (.slice ar1 3 cr1) := cell_after hkq6 sq5_0 kq5_0_4
  have kq6_0_5 : q6.cell? ⟨q1.heap.size, 5, none⟩ = some (.int .i64 2) := cell_after hkq6 sq5_0 kq5_0_5
  have kq6_0_6 : q6.cell? ⟨q1.heap.size, 6, none⟩ = some (.int .i64 4) := cell_after hkq6 sq5_0 kq5_0_6
  have kq6_0_7 : q6.cell? ⟨q1.heap.size, 7, none⟩ = some (.int .i64 3) := cell_after hkq6 sq5_0 kq5_0_7
  have kq6_0_8 : q6.cell? ⟨q1.heap.size, 8, none⟩ = some (.int .i64 5) := cell_after hkq6 sq5_0 kq5_0_8
  have kq6_0_9 : q6.cell? ⟨q1.heap.size, 9, none⟩ = some (.int .i64 1000) := cell_after hkq6 sq5_0 kq5_0_9
  have kq6_0_10 : q6.cell? ⟨q1.heap.size, 10, none⟩ = some (.int .i64 123) := cell_after hkq6 sq5_0 kq5_0_10
  have kq6_0_11 : q6.cell? ⟨q1.heap.size, 11, none⟩ = some (.int .i64 127) := cell_after hkq6 sq5_0 kq5_0_11
  have sq6_0 : q1.heap.size < q6.heap.size := size_after hkq6 sq5_0
  have kq6_1_0 : q6.cell? ⟨q2.heap.size, 0, none⟩ = some (.int .i64 56) := cell_after hkq6 sq5_1 kq5_1_0
  have kq6_1_1 : q6.cell? ⟨q2.heap.size, 1, none⟩ = some (.int .i64 105) := cell_after hkq6 sq5_1 kq5_1_1
  have kq6_1_2 : q6.cell? ⟨q2.heap.size, 2, none⟩ = some (.int .i64 42) := cell_after hkq6 sq5_1 kq5_1_2
  have kq6_1_3 : q6.cell? ⟨q2.heap.size, 3, none⟩ = some (.int .i64 6) := cell_after hkq6 sq5_1 kq5_1_3
  have kq6_1_4 : q6.cell? ⟨q2.heap.size, 4, none⟩ = some (.slice ag 3 cg) := cell_after hkq6 sq5_1 kq5_1_4
  have kq6_1_5 : q6.cell? ⟨q2.heap.size, 5, none⟩ = some (.int .i64 2) := cell_after hkq6 sq5_1 kq5_1_5
  have kq6_1_6 : q6.cell? ⟨q2.heap.size, 6, none⟩ = some (.int .i64 4) := cell_after hkq6 sq5_1 kq5_1_6
  have kq6_1_7 : q6.cell? ⟨q2.heap.size, 7, none⟩ = some (.int .i64 3) := cell_after hkq6 sq5_1 kq5_1_7
  have kq6_1_8 : q6.cell? ⟨q2.heap.size, 8, none⟩ = some (.int .i64 5) := cell_after hkq6 sq5_1 kq5_1_8
  have kq6_1_9 : q6.cell? ⟨q2.heap.size, 9, none⟩ = some (.int .i64 1000) := cell_after hkq6 sq5_1 kq5_1_9
  have kq6_1_10 : q6.cell? ⟨q2.heap.size, 10, none⟩ = some (.int .i64 123) := cell_after hkq6 sq5_1 kq5_1_10
  have kq6_1_11 : q6.cell? ⟨q2.heap.size, 11, none⟩ = some (.int .i64 127) := cell_after hkq6 sq5_1 kq5_1_11
  have sq6_1 : q2.heap.size < q6.heap.size := size_after hkq6 sq5_1
  have hBq6 : Below w.heap.size w q6 := (by repeat (first | exact HBq5.out | exact Below.refl _ _ | refine bl_alloc ?_ _ | refine bl_drewN ?_ _ | refine bl_trans (by assumption) ?_ | refine bl_set ?_ (by first | omega | (simp; done) | (simp; omega)) _))
  have HBq6 := Lib.hid hBq6
  clear hBq6 hcq6 hfq6 hbq6 hkq6 kq5_0_0 kq5_0_1 kq5_0_2 kq5_0_3 kq5_0_4 kq5_0_5 kq5_0_6 kq5_0_7 kq5_0_8 kq5_0_9 kq5_0_10 kq5_0_11 sq5_0 kq5_1_0 kq5_1_1 kq5_1_2 kq5_1_3 kq5_1_4 kq5_1_5 kq5_1_6 kq5_1_7 kq5_1_8 kq5_1_9 kq5_1_10 kq5_1_11 sq5_1
  have HR := Lib.hid hR2
  clear hR2
  go_wp2_with fail
  refine (eqDesk_any 56 105 42 6 2 4 3 5 1000 123 127 _ _ 3 fdF _ (HR.out.toP.keep (by repeat (first | exact Below.refl _ _ | refine bl_alloc ?_ _ | refine bl_drewN ?_ _ | refine bl_trans (by assumption) ?_ | refine bl_set ?_ (by first | omega | (simp; done) | (simp; omega)) _))) (V.out.toP.keep (by repeat (first | exact Below.refl _ _ | refine bl_alloc ?_ _ | refine bl_drewN ?_ _ | refine bl_trans (by assumption) ?_ | refine bl_set ?_ (by first | omega | (simp; done) | (simp; omega)) _)))).mono ?_
  rintro e q7 ⟨rfl, hbq7⟩
  obtain ⟨hcq7, hfq7⟩ := bcell hbq7
  have hzq7 := bsize hbq7
  (try simp only [World.size_alloc, World.size_setCell] at hzq7)
  have hkq7 : Below q6.heap.size q6 q7 := (by repeat (first | exact Below.refl _ _ | refine bl_alloc ?_ _ | refine bl_drewN ?_ _ | refine bl_trans (by assumption) ?_ | refine bl_set ?_ (by first | omega | (simp; done) | (simp; omega)) _))
  have V := Lib.hid (V.out.keep hkq7)
  have G := Lib.hid (G.out.keep hkq7)
  have kq7_0_0 : q7.cell? ⟨q1.heap.size, 0, none⟩ = some (.int .i64 56) := cell_after hkq7 sq6_0 kq6_0_0
  have kq7_0_1 : q7.cell? ⟨q1.heap.size, 1, none⟩ = some (.int .i64 105) := cell_after hkq7 sq6_0 kq6_0_1
  have kq7_0_2 : q7.cell? ⟨q1.heap.size, 2, none⟩ = some (.int .i64 42) := cell_after hkq7 sq6_0 kq6_0_2
  have kq7_0_3 : q7.cell? ⟨q1.heap.size, 3, none⟩ = some (.int .i64 6) := cell_after hkq7 sq6_0 kq6_0_3
  have kq7_0_4 : q7.cell? ⟨q1.heap.size, 4, none⟩ = some (.slice ar1 3 cr1) := cell_after hkq7 sq6_0 kq6_0_4
  have kq7_0_5 : q7.cell? ⟨q1.heap.size, 5, none⟩ = some (.int .i64 2) := cell_after hkq7 sq6_0 kq6_0_5
  have kq7_0_6 : q7.cell? ⟨q1.heap.size, 6, none⟩ = some (.int .i64 4) := cell_after hkq7 sq6_0 kq6_0_6
  have kq7_0_7 : q7.cell? ⟨q1.heap.size, 7, none⟩ = some (.int .i64 3) := cell_after hkq7 sq6_0 kq6_0_7
  have kq7_0_8 : q7.cell? ⟨q1.heap.size, 8, none⟩ = some (.int .i64 5) := cell_after hkq7 sq6_0 kq6_0_8
  have kq7_0_9 : q7.cell? ⟨q1.heap.size, 9, none⟩ = some (.int .i64 1000) := cell_after hkq7 sq6_0 kq6_0_9
  have kq7_0_10 : q7.cell? ⟨q1.heap.size, 10, none⟩ = some (.int .i64 123) := cell_after hkq7 sq6_0 kq6_0_10
  have kq7_0_11 : q7.cell? ⟨q1.heap.size, 11, none⟩ = some (.int .i64 127) := cell_after hkq7 sq6_0 kq6_0_11
  have sq7_0 : q1.heap.size < q7.heap.size := size_after hkq7 sq6_0
  have kq7_1_0 : q7.cell? ⟨q2.heap.size, 0, none⟩ = some (.int .i64 56) := cell_after hkq7 sq6_1 kq6_1_0
  have kq7_1_1 : q7.cell? ⟨q2.heap.size, 1, none⟩ = some (.int .i64 105) := cell_after hkq7 sq6_1 kq6_1_1
  have kq7_1_2 : q7.cell? ⟨q2.heap.size, 2, none⟩ = some (.int .i64 42) := cell_after hkq7 sq6_1 kq6_1_2
  have kq7_1_3 : q7.cell? ⟨q2.heap.size, 3, none⟩ = some (.int .i64 6) := cell_after hkq7 sq6_1 kq6_1_3
  have kq7_1_4 : q7.cell? ⟨q2.heap.size, 4, none⟩ = some (.slice ag 3 cg) := cell_after hkq7 sq6_1 kq6_1_4
  have kq7_1_5 : q7.cell? ⟨q2.heap.size, 5, none⟩ = some (.int .i64 2) := cell_after hkq7 sq6_1 kq6_1_5
  have kq7_1_6 : q7.cell? ⟨q2.heap.size, 6, none⟩ = some (.int .i64 4) := cell_after hkq7 sq6_1 kq6_1_6
  have kq7_1_7 : q7.cell? ⟨q2.heap.size, 7, none⟩ = some (.int .i64 3) := cell_after hkq7 sq6_1 kq6_1_7
  have kq7_1_8 : q7.cell? ⟨q2.heap.size, 8, none⟩ = some (.int .i64 5) := cell_after hkq7 sq6_1 kq6_1_8
  have kq7_1_9 : q7.cell? ⟨q2.heap.size, 9, none⟩ = some (.int .i64 1000) := cell_after hkq7 sq6_1 kq6_1_9
  have kq7_1_10 : q7.cell? ⟨q2.heap.size, 10, none⟩ = some (.int .i64 123) := cell_after hkq7 sq6_1 kq6_1_10
  have kq7_1_11 : q7.cell? ⟨q2.heap.size, 11, none⟩ = some (.int .i64 127) := cell_after hkq7 sq6_1 kq6_1_11
  have sq7_1 : q2.heap.size < q7.heap.size := size_after hkq7 sq6_1
  have kq7_2_0 : q7.cell? ⟨q6.heap.size, 0, none⟩ = some (.int .i64 56) := by rw [hcq7 _ _ (by first | (simp; done) | omega | (simp; omega))]; first | assumption | (simp [go_sem]; done) | (simp [go_sem, kq6_0_0, kq6_0_1, kq6_0_2, kq6_0_3, kq6_0_4, kq6_0_5, kq6_0_6, kq6_0_7, kq6_0_8, kq6_0_9, kq6_0_10, kq6_0_11, kq6_1_0, kq6_1_1, kq6_1_2, kq6_1_3, kq6_1_4, kq6_1_5, kq6_1_6, kq6_1_7, kq6_1_8, kq6_1_9, kq6_1_10, kq6_1_11]; done) | (simp [go_sem, *]; done)
  have kq7_2_1 : q7.cell? ⟨q6.heap.size, 1, none⟩ = some (.int .i64 105) := by rw [hcq7 _ _ (by first | (simp; done) | omega | (simp; omega))]; first | assumption | (simp [go_sem]; done) | (simp [go_sem, kq6_0_0, kq6_0_1, kq6_0_2, kq6_0_3, kq6_0_4, kq6_0_5, kq6_0_6, kq6_0_7, kq6_0_8, kq6_0_9, kq6_0_10, kq6_0_11, kq6_1_0, kq6_1_1, kq6_1_2, kq6_1_3, kq6_1_4, kq6_1_5, kq6_1_6, kq6_1_7, kq6_1_8, kq6_1_9, kq6_1_10, kq6_1_11]; done) | (simp [go_sem, *]; done)
  have kq7_2_2 : q7.cell? ⟨q6.heap.size, 2, none⟩ = some (.int .i64 42) := by rw [hcq7 _ _ (by first | (simp; done) | omega | (simp; omega))]; first | assumption | (simp [go_sem]; done) | (simp [go_sem, kq6_0_0, kq6_0_1, kq6_0_2, kq6_0_3, kq6_0_4, kq6_0_5, kq6_0_6, kq6_0_7, kq6_0_8, kq6_0_9, kq6_0_10, kq6_0_11, kq6_1_0, kq6_1_1, kq6_1_2, kq6_1_3, kq6_1_4, kq6_1_5, kq6_1_6, kq6_1_7, kq6_1_8, kq6_1_9, kq6_1_10, kq6_1_11]; done) | (simp [go_sem, *]; done)
  have kq7_2_3 : q7.cell? ⟨q6.heap.size, 3, none⟩ = some (.int .i64 6) := by rw [hcq7 _ _ (by first | (simp; done) | omega | (simp; omega))]; first | assumption | (simp [go_sem]; done) | (simp [go_sem, kq6_0_0, kq6_0_1, kq6_0_2, kq6_0_3, kq6_0_4, kq6_0_5, kq6_0_6, kq6_0_7, kq6_0_8, kq6_0_9, kq6_0_10, kq6_0_11, kq6_1_0, kq6_1_1, kq6_1_2, kq6_1_3, kq6_1_4, kq6_1_5, kq6_1_6, kq6_1_7, kq6_1_8, kq6_1_9, kq6_1_10, kq6_1_11]; done) | (simp [go_sem, *]; done)
  have kq7_2_4 : q7.cell? ⟨q6.heap.size, 4, none⟩ = some (.slice ar2 3 cr2) := by rw [hcq7 _ _ (by first | (simp; done) | omega | (simp; omega))]; first | assumption | (simp [go_sem]; done) | (simp [go_sem, kq6_0_0, kq6_0_1, kq6_0_2, kq6_0_3, kq6_0_4, kq6_0_5, kq6_0_6, kq6_0_7, kq6_0_8, kq6_0_9, kq6_0_10, kq6_0_11, kq6_1_0, kq6_1_1, kq6_1_2, kq6_1_3, kq6_1_4, kq6_1_5, kq6_1_6, kq6_1_7, kq6_1_8, kq6_1_9, kq6_1_10, kq6_1_11]; done) | (simp [go_sem, *]; done)
  have kq7_2_5 : q7.cell? ⟨q6.heap.size, 5, none⟩ = some (.int .i64 2) := by rw [hcq7 _ _ (by first | (simp; done) | omega | (simp; omega))]; first | assumption | (simp [go_sem]; done) | (simp [go_sem, kq6_0_0, kq6_0_1, kq6_0_2, kq6_0_3, kq6_0_4, kq6_0_5, kq6_0_6, kq6_0_7, kq6_0_8, kq6_0_9, kq6_0_10, kq6_0_11, kq6_1_0, kq6_1_1, kq6_1_2, kq6_1_3, kq6_1_4, kq6_1_5, kq6_1_6, kq6_1_7, kq6_1_8, kq6_1_9, kq6_1_10, kq6_1_11]; done) | (simp [go_sem, *]; done)
  have kq7_2_6 : q7.cell? ⟨q6.heap.size, 6, none⟩ = some (.int .i64 4) := by rw [hcq7 _ _ (by first | (simp; done) | omega | (simp; omega))]; first | assumption | (simp [go_sem]; done) | (simp [go_sem, kq6_0_0, kq6_0_1, kq6_0_2, kq6_0_3, kq6_0_4, kq6_0_5, kq6_0_6, kq6_0_7, kq6_0_8, kq6_0_9, kq6_0_10, kq6_0_11, kq6_1_0, kq6_1_1, kq6_1_2, kq6_1_3, kq6_1_4, kq6_1_5, kq6_1_6, kq6_1_7, kq6_1_8, kq6_1_9, kq6_1_10, kq6_1_11]; done) | (simp [go_sem, *]; done)
  have kq7_2_7 : q7.cell? ⟨q6.heap.size, 7, none⟩ = some (.int .i64 3) := by rw [hcq7 _ _ (by first | (simp; done) | omega | (simp; omega))]; first | assumption | (simp [go_sem]; done) | (simp [go_sem, kq6_0_0, kq6_0_1, kq6_0_2, kq6_0_3, kq6_0_4, kq6_0_5, kq6_0_6, kq6_0_7, kq6_0_8, kq6_0_9, kq6_0_10, kq6_0_11, kq6_1_0, kq6_1_1, kq6_1_2, kq6_1_3, kq6_1_4, kq6_1_5, kq6_1_6, kq6_1_7, kq6_1_8, kq6_1_9, kq6_1_10, kq6_1_11]; done) | (simp [go_sem, *]; done)
  have kq7_2_8 : q7.cell? ⟨q6.heap.size, 8, none⟩ = some (.int .i64 5) := by rw [hcq7 _ _ (by first | (simp; done) | omega | (simp; omega))]; first | assumption | (simp [go_sem]; done) | (simp [go_sem, kq6_0_0, kq6_0_1, kq6_0_2, kq6_0_3, kq6_0_4, kq6_0_5, kq6_0_6, kq6_0_7, kq6_0_8, kq6_0_9, kq6_0_10, kq6_0_11, kq6_1_0, kq6_1_1, kq6_1_2, kq6_1_3, kq6_1_4, kq6_1_5, kq6_1_6, kq6_1_7, kq6_1_8, kq6_1_9, kq6_1_10, kq6_1_11]; done) | (simp [go_sem, *]; done)
  have kq7_2_9 : q7.cell? ⟨q6.heap.size, 9, none⟩ = some (.int .i64 1000) := by rw [hcq7 _ _ (by first | (simp; done) | omega | (simp; omega))]; first | assumption | (simp [go_sem]; done) | (simp [go_sem, kq6_0_0, kq6_0_1, kq6_0_2, kq6_0_3, kq6_0_4, kq6_0_5, kq6_0_6, kq6_0_7, kq6_0_8, kq6_0_9, kq6_0_10, kq6_0_11, kq6_1_0, kq6_1_1, kq6_1_2, kq6_1_3, kq6_1_4, kq6_1_5, kq6_1_6, kq6_1_7, kq6_1_8, kq6_1_9, kq6_1_10, kq6_1_11]; done) | (simp [go_sem, *]; done)
  have kq7_2_10 : q7.cell? ⟨q6.heap.size, 10, none⟩ = some (.int .i64 123) := by rw [hcq7 _ _ (by first | (simp; done) | omega | (simp; omega))]; first | assumption | (simp [go_sem]; done) | (simp [go_sem, kq6_0_0, kq6_0_1, kq6_0_2, kq6_0_3, kq6_0_4, kq6_0_5, kq6_0_6, kq6_0_7, kq6_0_8, kq6_0_9, kq6_0_10, kq6_0_11, kq6_1_0, kq6_1_1, kq6_1_2, kq6_1_3, kq6_1_4, kq6_1_5, kq6_1_6, kq6_1_7, kq6_1_8, kq6_1_9, kq6_1_10, kq6_1_11]; done) | (simp [go_sem, *]; done)
  have kq7_2_11 : q7.cell? ⟨q6.heap.size, 11, none⟩ = some (.int .i64 127) := by rw [hcq7 _ _ (by first | (simp; done) | omega | (simp; omega))]; first | assumption | (simp [go_sem]; done) | (simp [go_sem, kq6_0_0, kq6_0_1, kq6_0_2, kq6_0_3, kq6_0_4, kq6_0_5, kq6_0_6, kq6_0_7, kq6_0_8, kq6_0_9, kq6_0_10, kq6_0_11, kq6_1_0, kq6_1_1, kq6_1_2, kq6_1_3, kq6_1_4, kq6_1_5, kq6_1_6, kq6_1_7, kq6_1_8, kq6_1_9, kq6_1_10, kq6_1_11]; done) | (simp [go_sem, *]; done)
  have sq7_2 : q6.heap.size < q7.heap.size := by first | omega | (simp at *; omega)
  have hBq7 : Below w.heap.size w q7 := (by repeat (first | exact HBq6.out | exact Below.refl _ _ | refine bl_alloc ?_ _ | refine bl_drewN ?_ _ | refine bl_trans (by assumption) ?_ | refine bl_set ?_ (by first | omega | (simp; done) | (simp; omega)) _))
  have HBq7 := Lib.hid hBq7
  clear hBq7 hcq7 hfq7 hbq7 hkq7 kq6_0_0 kq6_0_1 kq6_0_2 kq6_0_3 kq6_0_4 kq6_0_5 kq6_0_6 kq6_0_7 kq6_0_8 kq6_0_9 kq6_0_10 kq6_0_11 sq6_0 kq6_1_0 kq6_1_1 kq6_1_2 kq6_1_3 kq6_1_4 kq6_1_5 kq6_1_6 kq6_1_7 kq6_1_8 kq6_1_9 kq6_1_10 kq6_1_11 sq6_1
  go_wp2_with fail
  refine (heldDesk_any 56 105 42 6 2 4 3 5 1000 123 127 _ 3 _ G.out.toP (by omega)).mono ?_
  rintro e q8 ⟨rfl, hbq8⟩
  obtain ⟨hcq8, hfq8⟩ := bcell hbq8
  have hzq8 := bsize hbq8
  (try simp only [World.size_alloc, World.size_setCell] at hzq8)
  have hkq8 : Below q7.heap.size q7 q8 := (by repeat (first | exact Below.refl _ _ | refine bl_alloc ?_ _ | refine bl_drewN ?_ _ | refine bl_trans (by assumption) ?_ | refine bl_set ?_ (by first | omega | (simp; done) | (simp; omega)) _))
  have V := Lib.hid (V.out.keep hkq8)
  have G := Lib.hid (G.out.keep hkq8)
  have kq8_0_0 : q8.cell? ⟨q1.heap.size, 0, none⟩ = some (.int .i64 56) := cell_after hkq8 sq7_0 kq7_0_0
  have kq8_0_1 : q8.cell? ⟨q1.heap.size, 1, none⟩ = some (.int .i64 105) := cell_after hkq8 sq7_0 kq7_0_1
  have kq8_0_2 : q8.cell? ⟨q1.heap.size, 2, none⟩ = some (.int .i64 42) := cell_after hkq8 sq7_0 kq7_0_2
  have kq8_0_3 : q8.cell? ⟨q1.heap.size, 3, none⟩ = some (.int .i64 6) := cell_after hkq8 sq7_0 kq7_0_3
  have kq8_0_4 : q8.cell? ⟨q1.heap.size, 4, none⟩ = some (.slice ar1 3 cr1) := cell_after hkq8 sq7_0 kq7_0_4
  have kq8_0_5 : q8.cell? ⟨q1.heap.size, 5, none⟩ = some (.int .i64 2) := cell_after hkq8 sq7_0 kq7_0_5
  have kq8_0_6 : q8.cell? ⟨q1.heap.size, 6, none⟩ = some (.int .i64 4) := cell_after hkq8 sq7_0 kq7_0_6
  have kq8_0_7 : q8.cell? ⟨q1.heap.size, 7, none⟩ = some (.int .i64 3) := cell_after hkq8 sq7_0 kq7_0_7
  have kq8_0_8 : q8.cell? ⟨q1.heap.size, 8, none⟩ = some (.int .i64 5) := cell_after hkq8 sq7_0 kq7_0_8
  have kq8_0_9 : q8.cell? ⟨q1.heap.size, 9, none⟩ = some (.int .i64 1000) := cell_after hkq8 sq7_0 kq7_0_9
  have kq8_0_10 : q8.cell? ⟨q1.heap.size, 10, none⟩ = some (.int .i64 123) := cell_after hkq8 sq7_0 kq7_0_10
  have kq8_0_11 : q8.cell? ⟨q1.heap.size, 11, none⟩ = some (.int .i64 127) := cell_after hkq8 sq7_0 kq7_0_11
  have sq8_0 : q1.heap.size < q8.heap.size := size_after hkq8 sq7_0
  have kq8_1_0 : q8.cell? ⟨q2.heap.size, 0, none⟩ = some (.int .i64 56) := cell_after hkq8 sq7_1 kq7_1_0
  have kq8_1_1 : q8.cell? ⟨q2.heap.size, 1, none⟩ = some (.int .i64 105) := cell_after hkq8 sq7_1 kq7_1_1
  have kq8_1_2 : q8.cell? ⟨q2.heap.size, 2, none⟩ = some (.int .i64 42) := cell_after hkq8 sq7_1 kq7_1_2
  have kq8_1_3 : q8.cell? ⟨q2.heap.size, 3, none⟩ = some (.int .i64 6) := cell_after hkq8 sq7_1 kq7_1_3
  have kq8_1_4 : q8.cell? ⟨q2.heap.size, 4, none⟩ = some (.slice ag 3 cg) := cell_after hkq8 sq7_1 kq7_1_4
  have kq8_1_5 : q8.cell? ⟨q2.heap.size, 5, none⟩ = some (.int .i64 2) := cell_after hkq8 sq7_1 kq7_1_5
  have kq8_1_6 : q8.cell? ⟨q2.heap.size, 6, none⟩ = some (.int .i64 4) := cell_after hkq8 sq7_1 kq7_1_6
  have kq8_1_7 : q8.cell? ⟨q2.heap.size, 7, none⟩ = some (.int .i64 3) := cell_after hkq8 sq7_1 kq7_1_7
  have kq8_1_8 : q8.cell? ⟨q2.heap.size, 8, none⟩ = some (.int .i64 5) := cell_after hkq8 sq7_1 kq7_1_8
  have kq8_1_9 : q8.cell? ⟨q2.heap.size, 9, none⟩ = some (.int .i64 1000) := cell_after hkq8 sq7_1 kq7_1_9
  have kq8_1_10 : q8.cell? ⟨q2.heap.size, 10, none⟩ = some (.int .i64 123) := cell_after hkq8 sq7_1 kq7_1_10
  have kq8_1_11 : q8.cell? ⟨q2.heap.size, 11, none⟩ = some (.int .i64 127) := cell_after hkq8 sq7_1 kq7_1_11
  have sq8_1 : q2.heap.size < q8.heap.size := size_after hkq8 sq7_1
  have kq8_2_0 : q8.cell? ⟨q6.heap.size, 0, none⟩ = some (.int .i64 56) := cell_after hkq8 sq7_2 kq7_2_0
  have kq8_2_1 : q8.cell? ⟨q6.heap.size, 1, none⟩ = some (.int .i64 105) := cell_after hkq8 sq7_2 kq7_2_1
  have kq8_2_2 : q8.cell? ⟨q6.heap.size, 2, none⟩ = some (.int .i64 42) := cell_after hkq8 sq7_2 kq7_2_2
  have kq8_2_3 : q8.cell? ⟨q6.heap.size, 3, none⟩ = some (.int .i64 6) := cell_after hkq8 sq7_2 kq7_2_3
  have kq8_2_4 : q8.cell? ⟨q6.heap.size, 4, none⟩ = some (.slice ar2 3 cr2) := cell_after hkq8 sq7_2 kq7_2_4
  have kq8_2_5 : q8.cell? ⟨q6.heap.size, 5, none⟩ = some (.int .i64 2) := cell_after hkq8 sq7_2 kq7_2_5
  have kq8_2_6 : q8.cell? ⟨q6.heap.size, 6, none⟩ = some (.int .i64 4) := cell_after hkq8 sq7_2 kq7_2_6
  have kq8_2_7 : q8.cell? ⟨q6.heap.size, 7, none⟩ = some (.int .i64 3) := cell_after hkq8 sq7_2 kq7_2_7
  have kq8_2_8 : q8.cell? ⟨q6.heap.size, 8, none⟩ = some (.int .i64 5) := cell_after hkq8 sq7_2 kq7_2_8
  have kq8_2_9 : q8.cell? ⟨q6.heap.size, 9, none⟩ = some (.int .i64 1000) := cell_after hkq8 sq7_2 kq7_2_9
  have kq8_2_10 : q8.cell? ⟨q6.heap.size, 10, none⟩ = some (.int .i64 123) := cell_after hkq8 sq7_2 kq7_2_10
  have kq8_2_11 : q8.cell? ⟨q6.heap.size, 11, none⟩ = some (.int .i64 127) := cell_after hkq8 sq7_2 kq7_2_11
  have sq8_2 : q6.heap.size < q8.heap.size := size_after hkq8 sq7_2
  have hBq8 : Below w.heap.size w q8 := (by repeat (first | exact HBq7.out | exact Below.refl _ _ | refine bl_alloc ?_ _ | refine bl_drewN ?_ _ | refine bl_trans (by assumption) ?_ | refine bl_set ?_ (by first | omega | (simp; done) | (simp; omega)) _))
  have HBq8 := Lib.hid hBq8
  clear hBq8 hcq8 hfq8 hbq8 hkq8 kq7_0_0 kq7_0_1 kq7_0_2 kq7_0_3 kq7_0_4 kq7_0_5 kq7_0_6 kq7_0_7 kq7_0_8 kq7_0_9 kq7_0_10 kq7_0_11 sq7_0 kq7_1_0 kq7_1_1 kq7_1_2 kq7_1_3 kq7_1_4 kq7_1_5 kq7_1_6 kq7_1_7 kq7_1_8 kq7_1_9 kq7_1_10 kq7_1_11 sq7_1 kq7_2_0 kq7_2_1 kq7_2_2 kq7_2_3 kq7_2_4 kq7_2_5 kq7_2_6 kq7_2_7 kq7_2_8 kq7_2_9 kq7_2_10 kq7_2_11 sq7_2
  go_wp2
  go_ret
  exact ⟨rfl, (by repeat (first | exact HBq8.out | exact Below.refl _ _ | refine bl_alloc ?_ _ | refine bl_drewN ?_ _ | refine bl_trans (by assumption) ?_ | refine bl_set ?_ (by first | omega | (simp; done) | (simp; omega)) _))⟩

set_option maxRecDepth 100000 in
theorem lifted (os : Os) (started : os.Started) (H : Type) (enc : TypeId × Value → H) :
    ReturnsInHanded {} Try.checked os 3 .any (Rows.fnExactFirstDeskSpec.pre6 enc Try.prog Try.f3 Rows.fnExactFirstDeskRow.domain false) (Rows.fnExactFirstDeskSpec.post enc Try.prog Try.f3 false true false false) := by
  refine returnsInHanded_of_change (C := Try.checked) own started (by kernel_rfl) Try.func3
    (ChangeSpec.witness6 (enc := enc) (C := Try.checked) false ⟨#[], #[], []⟩ 8 (by kernel_rfl) (by kernel_rfl) (by kernel_rfl) (by kernel_rfl)) ?_
  intro W base args ds gs before hval0 hW hcnd _
  have hval : ∀ (j : Nat) t v, Try.f3.params[j]? = some t → args[j]? = some v → Value.okWide Try.prog W .any base t v := hval0
  have hW' := hW
  obtain ⟨p, q, hA0, hV, rfl, hfz, hnd⟩ := hW
  have hA : DataW.TrodAll enc Try.prog W 0 (fun _ => true) true Try.f3.params.toList args.toList ds p := hA0
  rw [Try.params3] at hA hval
  obtain ⟨hargs, rfl, rfl⟩ := trodAll_nil hA
  obtain rfl : args = #[] := by cases args; simp_all
  obtain ⟨rfl, rfl⟩ := trodVars_none hV
  
  clear hA0 hval0
  refine (walk  W ).mono fun e W' ⟨he, bel⟩ => ?_
  subst he
  exact ⟨_, rfl, _, _, _, [], _, [], hW', trodAll_mk1 (shut_bool Try.underlying4 _), trodAll_mk0, rfl, bel.frame _, fun h => by cases h⟩

theorem over : Rows.fnExactFirstDeskRow.holds Try.pinned (OpenSpec.ofChange Rows.fnExactFirstDeskSpec) :=
  OpenClaim.holds_of_wide 3 Try.f3 rfl rfl rfl rfl rfl rfl rfl ⟨rfl, rfl, rfl, rfl, rfl⟩ rfl rfl rfl rfl rfl (by kernel_rfl) Try.func3 (by simp only [joinedFacts, make, lifts, may, Bool.and_true]; kernel_rfl)
    (of_decide_eq_true (by kernel_rfl)) (by unfold Func.isWrapper; first | (rw [if_pos (by decide +kernel)]; kernel_rfl) | (rw [if_neg (by decide +kernel)]; exact ⟨rfl, rfl⟩))
    (fun os started H enc _ => lifted os started H enc)

theorem proved : Rows.FnExactFirstDeskSaid := over
#print axioms proved
end Go.Proofs.Ytahcfjpplkemdaa.fnExactFirstDesk

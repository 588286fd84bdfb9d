/- The law 'FnExactParsePuzzle' holds for every input. -/
import Derived.Test.YtahcfjpplkemdaaDoorPZS
import Derived.Test.YtahcfjpplkemdaaDoorPZL
import Derived.Test.YtahcfjpplkemdaaDoorO
import Derived.ProofKit
import Derived.OpenShut
import Derived.ShutString
import Derived.ChangeOld
import Derived.Lib.SmallJoins
import Derived.LaidMore
import Derived.Lay
import Derived.Deep.DeepHandedRow
import Derived.Deep.DeepWitnessRowRef
import Derived.Stop.LaidErr
import Derived.Stop.Joined
import Derived.Test.YtahcfjpplkemdaaDoorTie
import Derived.Test.YtahcfjpplkemdaaDoorCards
import Derived.SevenTiedAt
namespace Go.Proofs.YtahcfjpplkemdaaDoor.fnExactParsePuzzle
open Go
open Go.ChangeShapes Go.WideShapes Go.ChangeAt Go.RowKit Go.Joins
open Go.ChangeMaps (open_string shut_string)
set_option linter.unusedVariables false
set_option linter.unusedSimpArgs false
theorem own : ownKnob Tryd.prog.godebug = none := by kernel_rfl
theorem laidOut : laidOutB Tryd.prog = true := by kernel_rfl

set_option maxHeartbeats 1000000 in
theorem walk (a0 : ByteArray) (w0 : a0.size ≤ maxLen) (w : World) (T : Tab w) (E : Errs w) (M : MaxL w) :
    Calls Tryd.prog 4 #[.string a0] w fun e w' => e = .returned (.bool true) ∧ Below w.heap.size w w' := by
  by_cases hs : a0.size ≤ 1048576
  · have T0 := Lib.hid T
    have E0 := Lib.hid E
    have M0 := Lib.hid M
    have hs' : ¬ (1048576 : Int) < (a0.size : Int) := by omega
    clear T E M
    have hNb : zN a0 ≤ 1048576 := Nat.le_trans (zN_le a0) (by omega)
    go_enter Tryd.func4, Tryd.ntmps4
    go_wp2_with fail
    refine (spec_ParsePuzzle a0 hs _).mono ?_
    rintro e q1 ⟨r1, rfl, hR1, hbq1⟩
    obtain ⟨hcq1, hfq1⟩ := bcell hbq1
    have hzq1 := bsize hbq1
    (try simp only [World.size_alloc, World.size_setCell] at hzq1)
    obtain ⟨ar1, cr1, rfl⟩ := hR1.toP.shape
    have hBq1 : Below w.heap.size w q1 := (by repeat (first | exact Below.refl _ _ | refine bl_alloc ?_ _ | refine bl_drewN ?_ _ | refine bl_trans (by assumption) ?_ | refine bl_set ?_ (by first | omega | (simp; done) | (simp; omega)) _))
    have HBq1 := Lib.hid hBq1
    clear hBq1 hcq1 hfq1 hbq1
    have lt_v0 := Lib.hid hR1.lt
    have V := Lib.hid hR1
    clear hR1
    go_wp2_with fail
    refine (impl_ParsePuzzle a0 hs _ (T0.out.below (by repeat (first | exact HBq1.out | exact Below.refl _ _ | refine bl_alloc ?_ _ | refine bl_drewN ?_ _ | refine bl_trans (by assumption) ?_ | refine bl_set ?_ (by first | omega | (simp; done) | (simp; omega)) _))) (E0.out.below (by repeat (first | exact HBq1.out | exact Below.refl _ _ | refine bl_alloc ?_ _ | refine bl_drewN ?_ _ | refine bl_trans (by assumption) ?_ | refine bl_set ?_ (by first | omega | (simp; done) | (simp; omega)) _))) (M0.out.below (by repeat (first | exact HBq1.out | exact Below.refl _ _ | refine bl_alloc ?_ _ | refine bl_drewN ?_ _ | refine bl_trans (by assumption) ?_ | refine bl_set ?_ (by first | omega | (simp; done) | (simp; omega)) _)))).mono ?_
    rintro e q2 ⟨g0, rfl, hG, hbq2⟩
    obtain ⟨hcq2, hfq2⟩ := bcell hbq2
    have hzq2 := bsize hbq2
    (try simp only [World.size_alloc, World.size_setCell] at hzq2)
    have hkq2 : Below q1.heap.size q1 q2 := (by repeat (first | exact Below.refl _ _ | refine bl_alloc ?_ _ | refine bl_drewN ?_ _ | refine bl_trans (by assumption) ?_ | refine bl_set ?_ (by first | omega | (simp; done) | (simp; omega)) _))
    have V := Lib.hid (V.out.keep hkq2)
    have hG := hG.lower (C := q1.heap.size + 1) (by first | omega | (simp; done) | (simp; omega) | (simp at *; omega))
    have kq2_0_0 : q2.cell? ⟨q1.heap.size, 0, none⟩ = some (.int .i64 (zW a0)) := by rw [hcq2 _ _ (by first | (simp; done) | omega | (simp; omega))]; first | assumption | (simp [go_sem]; done) | (simp [go_sem]; done) | (simp [go_sem, *]; done)
    have kq2_0_1 : q2.cell? ⟨q1.heap.size, 1, none⟩ = some (.slice ar1 (zN a0) cr1) := by rw [hcq2 _ _ (by first | (simp; done) | omega | (simp; omega))]; first | assumption | (simp [go_sem]; done) | (simp [go_sem]; done) | (simp [go_sem, *]; done)
    have sq2_0 : q1.heap.size < q2.heap.size := by first | omega | (simp at *; omega)
    have hBq2 : Below w.heap.size w q2 := (by repeat (first | exact HBq1.out | exact Below.refl _ _ | refine bl_alloc ?_ _ | refine bl_drewN ?_ _ | refine bl_trans (by assumption) ?_ | refine bl_set ?_ (by first | omega | (simp; done) | (simp; omega)) _))
    have HBq2 := Lib.hid hBq2
    clear hBq2 hcq2 hfq2 hbq2 hkq2
    obtain ⟨ag, cg, rfl⟩ := hG.toP.shape
    have ge_g0 := Lib.hid hG.ge
    have lt_g0 := Lib.hid hG.lt
    have G := Lib.hid hG
    clear hG
    go_wp2_with fail
    refine (eqPuzzle_any (zW a0) _ _ (zN a0) (zF a0) _ (G.out.toP.keep (by repeat (first | exact Below.refl _ _ | refine bl_alloc ?_ _ | refine bl_drewN ?_ _ | refine bl_trans (by assumption) ?_ | refine bl_set ?_ (by first | omega | (simp; done) | (simp; omega)) _))) (V.out.toP.keep (by repeat (first | exact Below.refl _ _ | refine bl_alloc ?_ _ | refine bl_drewN ?_ _ | refine bl_trans (by assumption) ?_ | refine bl_set ?_ (by first | omega | (simp; done) | (simp; omega)) _)))).mono ?_
    rintro e q3 ⟨rfl, hbq3⟩
    obtain ⟨hcq3, hfq3⟩ := bcell hbq3
    have hzq3 := bsize hbq3
    (try simp only [World.size_alloc, World.size_setCell] at hzq3)
    have hkq3 : Below q2.heap.size q2 q3 := (by repeat (first | exact Below.refl _ _ | refine bl_alloc ?_ _ | refine bl_drewN ?_ _ | refine bl_trans (by assumption) ?_ | refine bl_set ?_ (by first | omega | (simp; done) | (simp; omega)) _))
    have V := Lib.hid (V.out.keep hkq3)
    have G := Lib.hid (G.out.keep hkq3)
    have kq3_0_0 : q3.cell? ⟨q1.heap.size, 0, none⟩ = some (.int .i64 (zW a0)) := cell_after hkq3 sq2_0 kq2_0_0
    have kq3_0_1 : q3.cell? ⟨q1.heap.size, 1, none⟩ = some (.slice ar1 (zN a0) cr1) := cell_after hkq3 sq2_0 kq2_0_1
    have sq3_0 : q1.heap.size < q3.heap.size := size_after hkq3 sq2_0
    have kq3_1_0 : q3.cell? ⟨q2.heap.size, 0, none⟩ = some (.int .i64 (zW a0)) := by rw [hcq3 _ _ (by first | (simp; done) | omega | (simp; omega))]; first | assumption | (simp [go_sem]; done) | (simp [go_sem, kq2_0_0, kq2_0_1]; done) | (simp [go_sem, *]; done)
    have kq3_1_1 : q3.cell? ⟨q2.heap.size, 1, none⟩ = some (.slice ag (zN a0) cg) := by rw [hcq3 _ _ (by first | (simp; done) | omega | (simp; omega))]; first | assumption | (simp [go_sem]; done) | (simp [go_sem, kq2_0_0, kq2_0_1]; done) | (simp [go_sem, *]; done)
    have sq3_1 : q2.heap.size < q3.heap.size := by first | omega | (simp at *; omega)
    have hBq3 : Below w.heap.size w q3 := (by repeat (first | exact HBq2.out | exact Below.refl _ _ | refine bl_alloc ?_ _ | refine bl_drewN ?_ _ | refine bl_trans (by assumption) ?_ | refine bl_set ?_ (by first | omega | (simp; done) | (simp; omega)) _))
    have HBq3 := Lib.hid hBq3
    clear hBq3 hcq3 hfq3 hbq3 hkq3 kq2_0_0 kq2_0_1 sq2_0
    go_wp2_with fail
    refine (markPuzzle_any (zW a0) _ (zN a0) _ _ _ G.out hNb).mono ?_
    rintro e q4 ⟨rfl, hO_, hg_⟩
    have hzq4 := hg_.size
    have nq4_0_0 := cell_far hg_ sq3_0 (box_ne ge_g0.out (by omega)) kq3_0_0
    have nq4_0_1 := cell_far hg_ sq3_0 (box_ne ge_g0.out (by omega)) kq3_0_1
    have nsq4_0 := Nat.lt_of_lt_of_le sq3_0 hzq4
    have nq4_1_0 := cell_far hg_ sq3_1 (box_ne' lt_g0.out (by omega)) kq3_1_0
    have nq4_1_1 := cell_far hg_ sq3_1 (box_ne' lt_g0.out (by omega)) kq3_1_1
    have nsq4_1 := Nat.lt_of_lt_of_le sq3_1 hzq4
    have V := Lib.hid (V.out.other hg_ (row_ne lt_v0.out ge_g0.out (by omega)))
    have G := Lib.hid hO_
    have HBq4 := Lib.hid (bel_far HBq3.out hg_ ge_g0.out (by omega))
    clear hO_ hg_ kq3_0_0 kq3_0_1 sq3_0 kq3_1_0 kq3_1_1 sq3_1
    have hk1 : ¬ (1 + ((zN a0 : Nat) : Int) * 3 < 0) := by omega
    go_wp2_with fail
    refine (heldPuzzle_any (zW a0) _ (zN a0) _ G.out.toP hNb).mono ?_
    rintro e q5 ⟨rfl, hbq5⟩
    obtain ⟨hcq5, hfq5⟩ := bcell hbq5
    have hzq5 := bsize hbq5
    (try simp only [World.size_alloc, World.size_setCell] at hzq5)
    have hkq5 : Below q4.heap.size q4 q5 := (by repeat (first | exact Below.refl _ _ | refine bl_alloc ?_ _ | refine bl_drewN ?_ _ | refine bl_trans (by assumption) ?_ | refine bl_set ?_ (by first | omega | (simp; done) | (simp; omega)) _))
    have V := Lib.hid (V.out.keep hkq5)
    have G := Lib.hid (G.out.keep hkq5)
    have kq5_0_0 : q5.cell? ⟨q1.heap.size, 0, none⟩ = some (.int .i64 (zW a0)) := cell_after hkq5 nsq4_0 nq4_0_0
    have kq5_0_1 : q5.cell? ⟨q1.heap.size, 1, none⟩ = some (.slice ar1 (zN a0) cr1) := cell_after hkq5 nsq4_0 nq4_0_1
    have sq5_0 : q1.heap.size < q5.heap.size := size_after hkq5 nsq4_0
    have kq5_1_0 : q5.cell? ⟨q2.heap.size, 0, none⟩ = some (.int .i64 (zW a0)) := cell_after hkq5 nsq4_1 nq4_1_0
    have kq5_1_1 : q5.cell? ⟨q2.heap.size, 1, none⟩ = some (.slice ag (zN a0) cg) := cell_after hkq5 nsq4_1 nq4_1_1
    have sq5_1 : q2.heap.size < q5.heap.size := size_after hkq5 nsq4_1
    have hBq5 : Below w.heap.size w q5 := (by repeat (first | exact HBq4.out | exact Below.refl _ _ | refine bl_alloc ?_ _ | refine bl_drewN ?_ _ | refine bl_trans (by assumption) ?_ | refine bl_set ?_ (by first | omega | (simp; done) | (simp; omega)) _))
    have HBq5 := Lib.hid hBq5
    clear hBq5 hcq5 hfq5 hbq5 hkq5 nq4_0_0 nq4_0_1 nsq4_0 nq4_1_0 nq4_1_1 nsq4_1
    go_wp2_with fail
    refine (impl_ParsePuzzle a0 hs _ (T0.out.below (by repeat (first | exact HBq5.out | exact Below.refl _ _ | refine bl_alloc ?_ _ | refine bl_drewN ?_ _ | refine bl_trans (by assumption) ?_ | refine bl_set ?_ (by first | omega | (simp; done) | (simp; omega)) _))) (E0.out.below (by repeat (first | exact HBq5.out | exact Below.refl _ _ | refine bl_alloc ?_ _ | refine bl_drewN ?_ _ | refine bl_trans (by assumption) ?_ | refine bl_set ?_ (by first | omega | (simp; done) | (simp; omega)) _))) (M0.out.below (by repeat (first | exact HBq5.out | exact Below.refl _ _ | refine bl_alloc ?_ _ | refine bl_drewN ?_ _ | refine bl_trans (by assumption) ?_ | refine bl_set ?_ (by first | omega | (simp; done) | (simp; omega)) _)))).mono ?_
    rintro e q6 ⟨r2, rfl, hR2, hbq6⟩
    obtain ⟨hcq6, hfq6⟩ := bcell hbq6
    have hzq6 := bsize hbq6
    (try simp only [World.size_alloc, World.size_setCell] at hzq6)
    have hkq6 : Below q5.heap.size q5 q6 := (by repeat (first | exact Below.refl _ _ | refine bl_alloc ?_ _ | refine bl_drewN ?_ _ | refine bl_trans (by assumption) ?_ | refine bl_set ?_ (by first | omega | (simp; done) | (simp; omega)) _))
    have V := Lib.hid (V.out.keep hkq6)
    have G := Lib.hid (G.out.keep hkq6)
    obtain ⟨ar2, cr2, rfl⟩ := hR2.toP.shape
    have kq6_0_0 : q6.cell? ⟨q1.heap.size, 0, none⟩ = some (.int .i64 (zW a0)) := cell_after hkq6 sq5_0 kq5_0_0
    have kq6_0_1 : q6.cell? ⟨q1.heap.size, 1, none⟩ = some (.slice ar1 (zN a0) cr1) := cell_after hkq6 sq5_0 kq5_0_1
    have sq6_0 : q1.heap.size < q6.heap.size := size_after hkq6 sq5_0
    have kq6_1_0 : q6.cell? ⟨q2.heap.size, 0, none⟩ = some (.int .i64 (zW a0)) := cell_after hkq6 sq5_1 kq5_1_0
    have kq6_1_1 : q6.cell? ⟨q2.heap.size, 1, none⟩ = some (.slice ag (zN a0) cg) := cell_after hkq6 sq5_1 kq5_1_1
    have sq6_1 : q2.heap.size < q6.heap.size := size_after hkq6 sq5_1
    have hBq6 : Below w.heap.size w q6 := (by repeat (first | exact HBq5.out | exact Below.refl _ _ | refine bl_alloc ?_ _ | refine bl_drewN ?_ _ | refine bl_trans (by assumption) ?_ | refine bl_set ?_ (by first | omega | (simp; done) | (simp; omega)) _))
    have HBq6 := Lib.hid hBq6
    clear hBq6 hcq6 hfq6 hbq6 hkq6 kq5_0_0 kq5_0_1 sq5_0 kq5_1_0 kq5_1_1 sq5_1
    have HR := Lib.hid hR2
    clear hR2
    go_wp2_with fail
    refine (eqPuzzle_any (zW a0) _ _ (zN a0) (zF a0) _ (HR.out.toP.keep (by repeat (first | exact Below.refl _ _ | refine bl_alloc ?_ _ | refine bl_drewN ?_ _ | refine bl_trans (by assumption) ?_ | refine bl_set ?_ (by first | omega | (simp; done) | (simp; omega)) _))) (V.out.toP.keep (by repeat (first | exact Below.refl _ _ | refine bl_alloc ?_ _ | refine bl_drewN ?_ _ | refine bl_trans (by assumption) ?_ | refine bl_set ?_ (by first | omega | (simp; done) | (simp; omega)) _)))).mono ?_
    rintro e q7 ⟨rfl, hbq7⟩
    obtain ⟨hcq7, hfq7⟩ := bcell hbq7
    have hzq7 := bsize hbq7
    (try simp only [World.size_alloc, World.size_setCell] at hzq7)
    have hkq7 : Below q6.heap.size q6 q7 := (by repeat (first | exact Below.refl _ _ | refine bl_alloc ?_ _ | refine bl_drewN ?_ _ | refine bl_trans (by assumption) ?_ | refine bl_set ?_ (by first | omega | (simp; done) | (simp; omega)) _))
    have V := Lib.hid (V.out.keep hkq7)
    have G := Lib.hid (G.out.keep hkq7)
    have kq7_0_0 : q7.cell? ⟨q1.heap.size, 0, none⟩ = some (.int .i64 (zW a0)) := cell_after hkq7 sq6_0 kq6_0_0
    have kq7_0_1 : q7.cell? ⟨q1.heap.size, 1, none⟩ = some (.slice ar1 (zN a0) cr1) := cell_after hkq7 sq6_0 kq6_0_1
    have sq7_0 : q1.heap.size < q7.heap.size := size_after hkq7 sq6_0
    have kq7_1_0 : q7.cell? ⟨q2.heap.size, 0, none⟩ = some (.int .i64 (zW a0)) := cell_after hkq7 sq6_1 kq6_1_0
    have kq7_1_1 : q7.cell? ⟨q2.heap.size, 1, none⟩ = some (.slice ag (zN a0) cg) := cell_after hkq7 sq6_1 kq6_1_1
    have sq7_1 : q2.heap.size < q7.heap.size := size_after hkq7 sq6_1
    have kq7_2_0 : q7.cell? ⟨q6.heap.size, 0, none⟩ = some (.int .i64 (zW a0)) := by rw [hcq7 _ _ (by first | (simp; done) | omega | (simp; omega))]; first | assumption | (simp [go_sem]; done) | (simp [go_sem, kq6_0_0, kq6_0_1, kq6_1_0, kq6_1_1]; done) | (simp [go_sem, *]; done)
    have kq7_2_1 : q7.cell? ⟨q6.heap.size, 1, none⟩ = some (.slice ar2 (zN a0) cr2) := by rw [hcq7 _ _ (by first | (simp; done) | omega | (simp; omega))]; first | assumption | (simp [go_sem]; done) | (simp [go_sem, kq6_0_0, kq6_0_1, kq6_1_0, kq6_1_1]; done) | (simp [go_sem, *]; done)
    have sq7_2 : q6.heap.size < q7.heap.size := by first | omega | (simp at *; omega)
    have hBq7 : Below w.heap.size w q7 := (by repeat (first | exact HBq6.out | exact Below.refl _ _ | refine bl_alloc ?_ _ | refine bl_drewN ?_ _ | refine bl_trans (by assumption) ?_ | refine bl_set ?_ (by first | omega | (simp; done) | (simp; omega)) _))
    have HBq7 := Lib.hid hBq7
    clear hBq7 hcq7 hfq7 hbq7 hkq7 kq6_0_0 kq6_0_1 sq6_0 kq6_1_0 kq6_1_1 sq6_1
    go_wp2_with fail
    refine (heldPuzzle_any (zW a0) _ (zN a0) _ G.out.toP hNb).mono ?_
    rintro e q8 ⟨rfl, hbq8⟩
    obtain ⟨hcq8, hfq8⟩ := bcell hbq8
    have hzq8 := bsize hbq8
    (try simp only [World.size_alloc, World.size_setCell] at hzq8)
    have hkq8 : Below q7.heap.size q7 q8 := (by repeat (first | exact Below.refl _ _ | refine bl_alloc ?_ _ | refine bl_drewN ?_ _ | refine bl_trans (by assumption) ?_ | refine bl_set ?_ (by first | omega | (simp; done) | (simp; omega)) _))
    have V := Lib.hid (V.out.keep hkq8)
    have G := Lib.hid (G.out.keep hkq8)
    have kq8_0_0 : q8.cell? ⟨q1.heap.size, 0, none⟩ = some (.int .i64 (zW a0)) := cell_after hkq8 sq7_0 kq7_0_0
    have kq8_0_1 : q8.cell? ⟨q1.heap.size, 1, none⟩ = some (.slice ar1 (zN a0) cr1) := cell_after hkq8 sq7_0 kq7_0_1
    have sq8_0 : q1.heap.size < q8.heap.size := size_after hkq8 sq7_0
    have kq8_1_0 : q8.cell? ⟨q2.heap.size, 0, none⟩ = some (.int .i64 (zW a0)) := cell_after hkq8 sq7_1 kq7_1_0
    have kq8_1_1 : q8.cell? ⟨q2.heap.size, 1, none⟩ = some (.slice ag (zN a0) cg) := cell_after hkq8 sq7_1 kq7_1_1
    have sq8_1 : q2.heap.size < q8.heap.size := size_after hkq8 sq7_1
    have kq8_2_0 : q8.cell? ⟨q6.heap.size, 0, none⟩ = some (.int .i64 (zW a0)) := cell_after hkq8 sq7_2 kq7_2_0
    have kq8_2_1 : q8.cell? ⟨q6.heap.size, 1, none⟩ = some (.slice ar2 (zN a0) cr2) := cell_after hkq8 sq7_2 kq7_2_1
    have sq8_2 : q6.heap.size < q8.heap.size := size_after hkq8 sq7_2
    have hBq8 : Below w.heap.size w q8 := (by repeat (first | exact HBq7.out | exact Below.refl _ _ | refine bl_alloc ?_ _ | refine bl_drewN ?_ _ | refine bl_trans (by assumption) ?_ | refine bl_set ?_ (by first | omega | (simp; done) | (simp; omega)) _))
    have HBq8 := Lib.hid hBq8
    clear hBq8 hcq8 hfq8 hbq8 hkq8 kq7_0_0 kq7_0_1 sq7_0 kq7_1_0 kq7_1_1 sq7_1 kq7_2_0 kq7_2_1 sq7_2
    go_wp2
    go_ret
    exact ⟨rfl, (by repeat (first | exact HBq8.out | exact Below.refl _ _ | refine bl_alloc ?_ _ | refine bl_drewN ?_ _ | refine bl_trans (by assumption) ?_ | refine bl_set ?_ (by first | omega | (simp; done) | (simp; omega)) _))⟩
  · have hs' : (1048576 : Int) < (a0.size : Int) := by omega
    go_enter Tryd.func4, Tryd.ntmps4
    go_wp2
    go_ret
    exact ⟨rfl, Below.refl _ _⟩

/-- The heap that the start-up code leaves meets the condition. -/
theorem door_met (os : Os) (args : Array Value) : laidMetH Tryd.prog Rows.fnExactParsePuzzleRow.laid ((World.laidAll Tryd.prog os Rows.fnExactParsePuzzleRow.laid).forCall (fun _ _ => 0) ⟨#[], args, []⟩).memory :=
  by rw [MakeChecks.laidMetH_plain _ _ _ (by kernel_rfl)]; exact laidMet_laidAll _ (by kernel_rfl) (by kernel_rfl)
theorem tab_of_laid {W : World} (h : laidMetH Tryd.prog Rows.fnExactParsePuzzleRow.laid W) : Tab W := by
  rw [MakeChecks.laidMetH_plain _ _ _ (by kernel_rfl)] at h
  exact Lib.tabIs_of_head (g := 1) (by kernel_rfl) (by kernel_rfl) Tryd.underlying96 Tryd.underlying82 (by kernel_rfl) (by kernel_rfl) (laidMet.tail (laidMet.tail h))
theorem star : "*" ++ "errors.errorString" = "*errors.errorString" := by decide
theorem rowErr (u : TypeId) (h : Tryd.prog.typeName? 3 u = some "*errors.errorString") : u = 120 :=
  typeName_ptr_named (nm := "errors.errorString") (by rw [star]; kernel_rfl) (by kernel_rfl) (by decide) u (by rw [star]; exact h)
theorem errs_of_laid {W : World} (h : laidMetH Tryd.prog Rows.fnExactParsePuzzleRow.laid W) : Errs W := by
  rw [MakeChecks.laidMetH_plain _ _ _ (by kernel_rfl)] at h
  have h3 := laidMet.tail (laidMet.tail (laidMet.tail (laidMet.tail h)))
  obtain ⟨a0, s0, hv0, -, -, -⟩ := laid_sentinel h3 (g := 3) (by kernel_rfl) (by kernel_rfl) Tryd.underlying66 rowErr Tryd.underlying120 Tryd.underlying122 rfl rfl Tryd.underlying9 (by kernel_rfl) (by kernel_rfl)
  obtain ⟨a1, s1, hv1, -, -, -⟩ := laid_sentinel (laidMet.tail h3) (g := 2) (by kernel_rfl) (by kernel_rfl) Tryd.underlying66 rowErr Tryd.underlying120 Tryd.underlying122 rfl rfl Tryd.underlying9 (by kernel_rfl) (by kernel_rfl)
  exact ⟨⟨_, _, hv1⟩, _, _, hv0⟩
theorem max_of {W : World} (h : W.ShapedOpen Tryd.prog) : MaxL W := Tryd.laysM145.s1_3 W h

set_option maxRecDepth 100000 in
theorem reads (os : Os) {H : Type} (enc : TypeId × Value → H) : ∃ places, DataW.whole enc Tryd.prog ((World.laidAll Tryd.prog os Rows.fnExactParsePuzzleRow.laid).forCall (fun _ _ => 0) ⟨#[], #[.string ByteArray.empty], []⟩).memory Tryd.f4.params.toList Rows.fnExactParsePuzzleSpec.vars false (#[.string ByteArray.empty] : Array Value).toList 8 = some ([.lit (.string [])], [], places) :=
  ⟨[], by kernel_rfl⟩
set_option maxRecDepth 100000 in
theorem lifted (os : Os) (started : os.Started) (H : Type) (enc : TypeId × Value → H) (F : Stop.Interp) :
    ReturnsInHanded {} Tryd.checked os 4 .any ((OpenSpec.ofChange Rows.fnExactParsePuzzleSpec).preRow enc Tryd.prog Tryd.f4 Rows.fnExactParsePuzzleRow.domain false Rows.fnExactParsePuzzleRow.laid) (((OpenSpec.ofChange Rows.fnExactParsePuzzleSpec).at F).post enc Tryd.prog Tryd.f4 false true false false) := by
  obtain ⟨places, hx⟩ := reads os enc
  refine returnsInHanded_of_row (C := Tryd.checked) (s := OpenSpec.ofChange Rows.fnExactParsePuzzleSpec) own started (by kernel_rfl) Tryd.func4
    (witness_row_atRef (enc := enc) (C := Tryd.checked) false (World.laidAll Tryd.prog os Rows.fnExactParsePuzzleRow.laid) #[.string ByteArray.empty] (World.laidAll_os _ _ _) (by kernel_rfl) (by kernel_rfl) (by kernel_rfl)
      (OpenSpec.preRow_of_cond 8 hx (by kernel_rfl) (fun k hk => by cases hk) (by kernel_rfl) (door_met os _))) ?_
  intro W base args ds gs before hval0 hW hcnd _ hsz hL hsh _
  have hval : ∀ (j : Nat) t v, Tryd.f4.params[j]? = some t → args[j]? = some v → Value.okWide Tryd.prog W .any base t v := hval0
  have hW' := hW
  obtain ⟨p, q, hA0, hV, rfl, hfz, hnd⟩ := hW
  have hA : DataW.TrodAll enc Tryd.prog W 0 (fun _ => true) true Tryd.f4.params.toList args.toList ds p := hA0
  rw [Tryd.params4] at hA hval
  obtain ⟨v0, vs0, d0, ds0, p0, q0, hargs, rfl, rfl, h0, r0⟩ := trodAll_cons hA
  obtain ⟨rfl, rfl, rfl⟩ := trodAll_nil r0
  obtain rfl : args = #[v0] := by cases args; simp_all
  obtain ⟨rfl, rfl⟩ := trodVars_none hV
  have k0 := h0
  have lt0 : ∀ x ∈ p0, x.block < W.heap.size := by obtain ⟨m, hm⟩ := k0; exact DataW.trod_lt m _ _ _ hm
  obtain ⟨a0, rfl, rfl, rfl, w0⟩ := open_string Tryd.underlying9 (hval 0 9 v0 rfl rfl) h0
  clear hA0 hval0
  refine (walk a0 w0 W (tab_of_laid hL) (errs_of_laid hL) (max_of hsh)).mono fun e W' ⟨he, bel⟩ => ?_
  subst he
  exact ⟨_, rfl, _, _, _, [], _, [], hW', trodAll_mk1 (shut_bool Tryd.underlying4 _), (trodAll_cons_mk (Below.trod laidOut (by kernel_rfl) (of_decide_eq_true (by kernel_rfl)) k0 bel lt0) trodAll_mk0), rfl, bel.frame _, fun h => by cases h⟩

theorem over : Rows.fnExactParsePuzzleRow.holds Tryd.pinned (OpenSpec.ofChange Rows.fnExactParsePuzzleSpec) :=
  OpenClaim.holds_of_cond 4 Tryd.f4 rfl rfl rfl rfl rfl rfl rfl ⟨rfl, rfl, rfl, rfl, rfl⟩ rfl rfl rfl rfl rfl (by kernel_rfl) Tryd.func4 (by simp only [joinedFacts, make, lifts, may, Bool.and_true]; kernel_rfl)
    (of_decide_eq_true (by kernel_rfl)) (by unfold Func.isWrapper; first | (rw [if_pos (by decide +kernel)]; kernel_rfl) | (rw [if_neg (by decide +kernel)]; exact ⟨rfl, rfl⟩))
    (fun os started H enc _ F => by rw [OpenClaim.pre_eq_preRow]; exact lifted os started H enc F)

theorem bare : Rows.FnExactParsePuzzleSaid := over
theorem proved : Rows.FnExactParsePuzzleCardSaid :=
  Claim7.holds_tied_plain_at .later [] _ _ _ _
    bare (fun _ h => by cases h) (by kernel_rfl) (fun _ h => by cases h) fnExactParsePuzzle_row_tie rfl ⟨rfl, rfl⟩ (by kernel_rfl) rfl
    (fun f fn hf hfn => by
      obtain rfl : f = 4 := Option.some.inj ((show Tryd.prog.funcNamed Rows.fnExactParsePuzzleRow.func = some 4 by kernel_rfl).symm.trans hf) |>.symm
      obtain rfl : fn = Tryd.f4 := (Option.some.inj (Tryd.func4.symm.trans hfn)).symm
      exact ⟨by kernel_rfl, fun j t ht => by
        rw [Tryd.params4] at ht
        have hm : t ∈ [9] := by simpa using Array.mem_of_getElem? ht
        have hall : ([9].all fun u => !Tryd.prog.wantsStandIn u) = true := by kernel_rfl
        exact (show Tryd.prog.wantsStandIn t = false by simpa using List.all_eq_true.1 hall t hm)⟩)
    (by kernel_rfl)
#print axioms proved
end Go.Proofs.YtahcfjpplkemdaaDoor.fnExactParsePuzzle

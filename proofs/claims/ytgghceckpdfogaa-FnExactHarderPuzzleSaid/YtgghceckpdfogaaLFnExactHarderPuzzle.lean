/- The law 'FnExactHarderPuzzle' holds for every input. -/
import Derived.Test.YtgghceckpdfogaaPZL
import Derived.Test.YtgghceckpdfogaaPZ9
import Derived.Test.YtgghceckpdfogaaO
import Derived.ProofKit
import Derived.OpenShut
import Derived.ShutString
import Derived.ChangeOld
import Derived.Lib.SmallJoins
namespace Go.Proofs.Ytgghceckpdfogaa.fnExactHarderPuzzle
open Go.ChangeShapes Go.WideShapes Go.ChangeAt Go.RowKit Go.Joins
open Go.ChangeMaps (open_string shut_string)
set_option linter.unusedVariables false
set_option linter.unusedSimpArgs false
theorem own : ownKnob Try.prog.godebug = none := by kernel_rfl
theorem laidOut : laidOutB Try.prog = true := by kernel_rfl
theorem SA2_2_2_2_after {w c u v : World} {A0 A1 A2 A3 : Nat} {x00 x01 x10 x11 x20 x21 x30 x31 : Value} (hb : Below u.heap.size u v) (h : u.cell? ⟨A0, 0, none⟩ = some x00 ∧ u.cell? ⟨A0, 1, none⟩ = some x01 ∧ u.cell? ⟨A1, 0, none⟩ = some x10 ∧ u.cell? ⟨A1, 1, none⟩ = some x11 ∧ u.cell? ⟨A2, 0, none⟩ = some x20 ∧ u.cell? ⟨A2, 1, none⟩ = some x21 ∧ u.cell? ⟨A3, 0, none⟩ = some x30 ∧ u.cell? ⟨A3, 1, none⟩ = some x31 ∧ A0 < u.heap.size ∧ A1 < u.heap.size ∧ A2 < u.heap.size ∧ A3 < u.heap.size ∧ Below w.heap.size w u ∧ Below c.heap.size c u) : v.cell? ⟨A0, 0, none⟩ = some x00 ∧ v.cell? ⟨A0, 1, none⟩ = some x01 ∧ v.cell? ⟨A1, 0, none⟩ = some x10 ∧ v.cell? ⟨A1, 1, none⟩ = some x11 ∧ v.cell? ⟨A2, 0, none⟩ = some x20 ∧ v.cell? ⟨A2, 1, none⟩ = some x21 ∧ v.cell? ⟨A3, 0, none⟩ = some x30 ∧ v.cell? ⟨A3, 1, none⟩ = some x31 ∧ A0 < v.heap.size ∧ A1 < v.heap.size ∧ A2 < v.heap.size ∧ A3 < v.heap.size ∧ Below w.heap.size w v ∧ Below c.heap.size c v := by
  obtain ⟨h0, h1, h2, h3, h4, h5, h6, h7, h8, h9, h10, h11, h12, h13⟩ := h
  exact ⟨by rw [(bcell hb).1 _ _ h8]; exact h0, by rw [(bcell hb).1 _ _ h8]; exact h1, by rw [(bcell hb).1 _ _ h9]; exact h2, by rw [(bcell hb).1 _ _ h9]; exact h3, by rw [(bcell hb).1 _ _ h10]; exact h4, by rw [(bcell hb).1 _ _ h10]; exact h5, by rw [(bcell hb).1 _ _ h11]; exact h6, by rw [(bcell hb).1 _ _ h11]; exact h7, Nat.lt_of_lt_of_le h8 hb.size, Nat.lt_of_lt_of_le h9 hb.size, Nat.lt_of_lt_of_le h10 hb.size, Nat.lt_of_lt_of_le h11 hb.size, bl_trans hb h12, bl_trans hb h13⟩
theorem SA2_2_2_2_b1 {w c u : World} {A0 A1 A2 A3 : Nat} {x00 x01 x10 x11 x20 x21 x30 x31 : Value} (h : u.cell? ⟨A0, 0, none⟩ = some x00 ∧ u.cell? ⟨A0, 1, none⟩ = some x01 ∧ u.cell? ⟨A1, 0, none⟩ = some x10 ∧ u.cell? ⟨A1, 1, none⟩ = some x11 ∧ u.cell? ⟨A2, 0, none⟩ = some x20 ∧ u.cell? ⟨A2, 1, none⟩ = some x21 ∧ u.cell? ⟨A3, 0, none⟩ = some x30 ∧ u.cell? ⟨A3, 1, none⟩ = some x31 ∧ A0 < u.heap.size ∧ A1 < u.heap.size ∧ A2 < u.heap.size ∧ A3 < u.heap.size ∧ Below w.heap.size w u ∧ Below c.heap.size c u) : Below w.heap.size w u := h.2.2.2.2.2.2.2.2.2.2.2.2.1
theorem SA2_2_2_2_b2 {w c u : World} {A0 A1 A2 A3 : Nat} {x00 x01 x10 x11 x20 x21 x30 x31 : Value} (h : u.cell? ⟨A0, 0, none⟩ = some x00 ∧ u.cell? ⟨A0, 1, none⟩ = some x01 ∧ u.cell? ⟨A1, 0, none⟩ = some x10 ∧ u.cell? ⟨A1, 1, none⟩ = some x11 ∧ u.cell? ⟨A2, 0, none⟩ = some x20 ∧ u.cell? ⟨A2, 1, none⟩ = some x21 ∧ u.cell? ⟨A3, 0, none⟩ = some x30 ∧ u.cell? ⟨A3, 1, none⟩ = some x31 ∧ A0 < u.heap.size ∧ A1 < u.heap.size ∧ A2 < u.heap.size ∧ A3 < u.heap.size ∧ Below w.heap.size w u ∧ Below c.heap.size c u) : Below c.heap.size c u := h.2.2.2.2.2.2.2.2.2.2.2.2.2

set_option maxHeartbeats 1000000 in
theorem walk (a0 : Int) (v0c : Value) (n0 : Nat) (f0 : Nat → Int) (w0 : (Lit.int .i64 a0).wf = true) (w : World) (hP0 : PClu w v0c n0 f0) :
    Calls Try.prog 16 #[.agg #[.int .i64 a0, v0c]] w fun e w' => e = .returned (.bool true) ∧ Below w.heap.size w w' := by
  have HH := Lib.hid hP0
  clear hP0
  obtain ⟨a, c, hv⟩ := HH.out.shape
  subst hv
  by_cases hn : n0 ≤ 1048576
  · have hNb : hdN a0 n0 f0 ≤ 1048576 := Nat.le_trans (hdN_le _ _ _) hn
    go_enter Try.func16, Try.ntmps16
    go_wp2_with fail
    refine (szPuzzle_any a0 _ n0 f0 _ (HH.out.keep (by repeat (first | exact Below.refl _ _ | refine bl_alloc ?_ _ | refine bl_drewN ?_ _ | refine bl_trans (by assumption) ?_ | refine bl_set ?_ (by first | omega | (simp; done) | (simp; omega)) _)))).mono ?_
    rintro e q1 ⟨rfl, hbq1⟩
    obtain ⟨hcq1, hfq1⟩ := bcell hbq1
    have hzq1 := bsize hbq1
    (try simp only [World.size_alloc, World.size_setCell] at hzq1)
    have kq1_0_0 : q1.cell? ⟨w.heap.size, 0, none⟩ = some (.int .i64 a0) := by rw [hcq1 _ _ (by first | (simp; done) | omega | (simp; omega))]; first | assumption | (simp [go_sem]; done) | (simp [go_sem]; done) | (simp [go_sem, *]; done)
    have kq1_0_1 : q1.cell? ⟨w.heap.size, 1, none⟩ = some (.slice a n0 c) := by rw [hcq1 _ _ (by first | (simp; done) | omega | (simp; omega))]; first | assumption | (simp [go_sem]; done) | (simp [go_sem]; done) | (simp [go_sem, *]; done)
    have sq1_0 : w.heap.size < q1.heap.size := by first | omega | (simp at *; omega)
    have hBq1 : Below w.heap.size w q1 := (by repeat (first | exact Below.refl _ _ | refine bl_alloc ?_ _ | refine bl_drewN ?_ _ | refine bl_trans (by assumption) ?_ | refine bl_set ?_ (by first | omega | (simp; done) | (simp; omega)) _))
    have HBq1 := Lib.hid hBq1
    clear hBq1 hcq1 hfq1 hbq1
    rw [if_pos hn]
    go_wp2_with fail
    refine (toPuzzle_any a0 _ n0 f0 _ (HH.out.keep (by repeat (first | exact HBq1.out | exact Below.refl _ _ | refine bl_alloc ?_ _ | refine bl_drewN ?_ _ | refine bl_trans (by assumption) ?_ | refine bl_set ?_ (by first | omega | (simp; done) | (simp; omega)) _))) hn).mono ?_
    rintro e q2 ⟨u1, rfl, hO1, hbq2⟩
    obtain ⟨hcq2, hfq2⟩ := bcell hbq2
    have hzq2 := bsize hbq2
    (try simp only [World.size_alloc, World.size_setCell] at hzq2)
    have hkq2 : Below q1.heap.size q1 q2 := (by repeat (first | exact Below.refl _ _ | refine bl_alloc ?_ _ | refine bl_drewN ?_ _ | refine bl_trans (by assumption) ?_ | refine bl_set ?_ (by first | omega | (simp; done) | (simp; omega)) _))
    obtain ⟨a1u, c1u, rfl⟩ := hO1.toP.shape
    have O1 := Lib.hid hO1
    clear hO1
    have kq2_0_0 : q2.cell? ⟨w.heap.size, 0, none⟩ = some (.int .i64 a0) := cell_after hkq2 sq1_0 kq1_0_0
    have kq2_0_1 : q2.cell? ⟨w.heap.size, 1, none⟩ = some (.slice a n0 c) := cell_after hkq2 sq1_0 kq1_0_1
    have sq2_0 : w.heap.size < q2.heap.size := size_after hkq2 sq1_0
    have hBq2 : Below w.heap.size w q2 := (by repeat (first | exact HBq1.out | exact Below.refl _ _ | refine bl_alloc ?_ _ | refine bl_drewN ?_ _ | refine bl_trans (by assumption) ?_ | refine bl_set ?_ (by first | omega | (simp; done) | (simp; omega)) _))
    have HBq2 := Lib.hid hBq2
    clear hBq2 hcq2 hfq2 hbq2 hkq2 kq1_0_0 kq1_0_1 sq1_0
    go_wp2_with fail
    refine (spec_HarderPuzzle a0 _ n0 f0 _ O1.out.toP O1.out.caps).mono ?_
    rintro e q3 ⟨r1, rfl, hR1, hbq3⟩
    obtain ⟨hcq3, hfq3⟩ := bcell hbq3
    have hzq3 := bsize hbq3
    (try simp only [World.size_alloc, World.size_setCell] at hzq3)
    have hkq3 : Below q2.heap.size q2 q3 := (by repeat (first | exact Below.refl _ _ | refine bl_alloc ?_ _ | refine bl_drewN ?_ _ | refine bl_trans (by assumption) ?_ | refine bl_set ?_ (by first | omega | (simp; done) | (simp; omega)) _))
    obtain ⟨ar1, cr1, rfl⟩ := hR1.toP.shape
    have kq3_0_0 : q3.cell? ⟨w.heap.size, 0, none⟩ = some (.int .i64 a0) := cell_after hkq3 sq2_0 kq2_0_0
    have kq3_0_1 : q3.cell? ⟨w.heap.size, 1, none⟩ = some (.slice a n0 c) := cell_after hkq3 sq2_0 kq2_0_1
    have sq3_0 : w.heap.size < q3.heap.size := size_after hkq3 sq2_0
    have hBq3 : Below w.heap.size w q3 := (by repeat (first | exact HBq2.out | exact Below.refl _ _ | refine bl_alloc ?_ _ | refine bl_drewN ?_ _ | refine bl_trans (by assumption) ?_ | refine bl_set ?_ (by first | omega | (simp; done) | (simp; omega)) _))
    have HBq3 := Lib.hid hBq3
    clear hBq3 hcq3 hfq3 hbq3 hkq3 kq2_0_0 kq2_0_1 sq2_0
    have lt_v0 := Lib.hid hR1.lt
    have V := Lib.hid hR1
    clear hR1
    go_wp2_with fail
    refine (toPuzzle_any a0 _ n0 f0 _ (HH.out.keep (by repeat (first | exact HBq3.out | exact Below.refl _ _ | refine bl_alloc ?_ _ | refine bl_drewN ?_ _ | refine bl_trans (by assumption) ?_ | refine bl_set ?_ (by first | omega | (simp; done) | (simp; omega)) _))) hn).mono ?_
    rintro e q4 ⟨u2, rfl, hO2, hbq4⟩
    obtain ⟨hcq4, hfq4⟩ := bcell hbq4
    have hzq4 := bsize hbq4
    (try simp only [World.size_alloc, World.size_setCell] at hzq4)
    have hkq4 : Below q3.heap.size q3 q4 := (by repeat (first | exact Below.refl _ _ | refine bl_alloc ?_ _ | refine bl_drewN ?_ _ | refine bl_trans (by assumption) ?_ | refine bl_set ?_ (by first | omega | (simp; done) | (simp; omega)) _))
    have V := Lib.hid (V.out.keep hkq4)
    have hO2 := hO2.lower (C := q3.heap.size + 1) (by simp)
    obtain ⟨a2, c2, rfl⟩ := hO2.toP.shape
    have ge_u2 := Lib.hid hO2.ge
    have lt_u2 := Lib.hid hO2.lt
    have O2 := Lib.hid hO2
    clear hO2
    have kq4_0_0 : q4.cell? ⟨w.heap.size, 0, none⟩ = some (.int .i64 a0) := cell_after hkq4 sq3_0 kq3_0_0
    have kq4_0_1 : q4.cell? ⟨w.heap.size, 1, none⟩ = some (.slice a n0 c) := cell_after hkq4 sq3_0 kq3_0_1
    have sq4_0 : w.heap.size < q4.heap.size := size_after hkq4 sq3_0
    have kq4_1_0 : q4.cell? ⟨q3.heap.size, 0, none⟩ = some (.int .i64 (hdW a0 n0 f0)) := by rw [hcq4 _ _ (by first | (simp; done) | omega | (simp; omega))]; first | assumption | (simp [go_sem]; done) | (simp [go_sem, kq3_0_0, kq3_0_1]; done) | (simp [go_sem, *]; done)
    have kq4_1_1 : q4.cell? ⟨q3.heap.size, 1, none⟩ = some (.slice ar1 (hdN a0 n0 f0) cr1) := by rw [hcq4 _ _ (by first | (simp; done) | omega | (simp; omega))]; first | assumption | (simp [go_sem]; done) | (simp [go_sem, kq3_0_0, kq3_0_1]; done) | (simp [go_sem, *]; done)
    have sq4_1 : q3.heap.size < q4.heap.size := by first | omega | (simp at *; omega)
    have hBq4 : Below w.heap.size w q4 := (by repeat (first | exact HBq3.out | exact Below.refl _ _ | refine bl_alloc ?_ _ | refine bl_drewN ?_ _ | refine bl_trans (by assumption) ?_ | refine bl_set ?_ (by first | omega | (simp; done) | (simp; omega)) _))
    have HBq4 := Lib.hid hBq4
    clear hBq4 hcq4 hfq4 hbq4 hkq4 kq3_0_0 kq3_0_1 sq3_0
    go_wp2_with fail
    refine (impl_HarderPuzzle a0 _ n0 f0 _ (O2.out.toP.keep (by repeat (first | exact Below.refl _ _ | refine bl_alloc ?_ _ | refine bl_drewN ?_ _ | refine bl_trans (by assumption) ?_ | refine bl_set ?_ (by first | omega | (simp; done) | (simp; omega)) _))) O2.out.caps).mono ?_
    rintro e q5 ⟨g0, rfl, hG, hbq5⟩
    obtain ⟨hcq5, hfq5⟩ := bcell hbq5
    have hzq5 := bsize hbq5
    (try simp only [World.size_alloc, World.size_setCell] at hzq5)
    have hkq5 : Below q4.heap.size q4 q5 := (by repeat (first | exact Below.refl _ _ | refine bl_alloc ?_ _ | refine bl_drewN ?_ _ | refine bl_trans (by assumption) ?_ | refine bl_set ?_ (by first | omega | (simp; done) | (simp; omega)) _))
    have V := Lib.hid (V.out.keep hkq5)
    have O2 := Lib.hid (O2.out.keep hkq5)
    have hG := hG.lower (C := q4.heap.size + 1) (by simp)
    have kq5_0_0 : q5.cell? ⟨w.heap.size, 0, none⟩ = some (.int .i64 a0) := cell_after hkq5 sq4_0 kq4_0_0
    have kq5_0_1 : q5.cell? ⟨w.heap.size, 1, none⟩ = some (.slice a n0 c) := cell_after hkq5 sq4_0 kq4_0_1
    have sq5_0 : w.heap.size < q5.heap.size := size_after hkq5 sq4_0
    have kq5_1_0 : q5.cell? ⟨q3.heap.size, 0, none⟩ = some (.int .i64 (hdW a0 n0 f0)) := cell_after hkq5 sq4_1 kq4_1_0
    have kq5_1_1 : q5.cell? ⟨q3.heap.size, 1, none⟩ = some (.slice ar1 (hdN a0 n0 f0) cr1) := cell_after hkq5 sq4_1 kq4_1_1
    have sq5_1 : q3.heap.size < q5.heap.size := size_after hkq5 sq4_1
    have kq5_2_0 : q5.cell? ⟨q4.heap.size, 0, none⟩ = some (.int .i64 a0) := by rw [hcq5 _ _ (by first | (simp; done) | omega | (simp; omega))]; first | assumption | (simp [go_sem]; done) | (simp [go_sem, kq4_0_0, kq4_0_1, kq4_1_0, kq4_1_1]; done) | (simp [go_sem, *]; done)
    have kq5_2_1 : q5.cell? ⟨q4.heap.size, 1, none⟩ = some (.slice a2 n0 c2) := by rw [hcq5 _ _ (by first | (simp; done) | omega | (simp; omega))]; first | assumption | (simp [go_sem]; done) | (simp [go_sem, kq4_0_0, kq4_0_1, kq4_1_0, kq4_1_1]; done) | (simp [go_sem, *]; done)
    have sq5_2 : q4.heap.size < q5.heap.size := by first | omega | (simp at *; omega)
    have hBq5 : Below w.heap.size w q5 := (by repeat (first | exact HBq4.out | exact Below.refl _ _ | refine bl_alloc ?_ _ | refine bl_drewN ?_ _ | refine bl_trans (by assumption) ?_ | refine bl_set ?_ (by first | omega | (simp; done) | (simp; omega)) _))
    have HBq5 := Lib.hid hBq5
    clear hBq5 hcq5 hfq5 hbq5 hkq5 kq4_0_0 kq4_0_1 sq4_0 kq4_1_0 kq4_1_1 sq4_1
    obtain ⟨ag, cg, rfl⟩ := hG.toP.shape
    have ge_g0 := Lib.hid hG.ge
    have lt_g0 := Lib.hid hG.lt
    have G := Lib.hid hG
    clear hG
    go_wp2_with fail
    refine (eqPuzzle_any (hdW a0 n0 f0) _ _ (hdN a0 n0 f0) (hdF a0 n0 f0) _ (G.out.toP.keep (by repeat (first | exact Below.refl _ _ | refine bl_alloc ?_ _ | refine bl_drewN ?_ _ | refine bl_trans (by assumption) ?_ | refine bl_set ?_ (by first | omega | (simp; done) | (simp; omega)) _))) (V.out.toP.keep (by repeat (first | exact Below.refl _ _ | refine bl_alloc ?_ _ | refine bl_drewN ?_ _ | refine bl_trans (by assumption) ?_ | refine bl_set ?_ (by first | omega | (simp; done) | (simp; omega)) _)))).mono ?_
    rintro e q6 ⟨rfl, hbq6⟩
    obtain ⟨hcq6, hfq6⟩ := bcell hbq6
    have hzq6 := bsize hbq6
    (try simp only [World.size_alloc, World.size_setCell] at hzq6)
    have hkq6 : Below q5.heap.size q5 q6 := (by repeat (first | exact Below.refl _ _ | refine bl_alloc ?_ _ | refine bl_drewN ?_ _ | refine bl_trans (by assumption) ?_ | refine bl_set ?_ (by first | omega | (simp; done) | (simp; omega)) _))
    have V := Lib.hid (V.out.keep hkq6)
    have O2 := Lib.hid (O2.out.keep hkq6)
    have G := Lib.hid (G.out.keep hkq6)
    have kq6_0_0 : q6.cell? ⟨w.heap.size, 0, none⟩ = some (.int .i64 a0) := cell_after hkq6 sq5_0 kq5_0_0
    have kq6_0_1 : q6.cell? ⟨w.heap.size, 1, none⟩ = some (.slice a n0 c) := cell_after hkq6 sq5_0 kq5_0_1
    have sq6_0 : w.heap.size < q6.heap.size := size_after hkq6 sq5_0
    have kq6_1_0 : q6.cell? ⟨q3.heap.size, 0, none⟩ = some (.int .i64 (hdW a0 n0 f0)) := cell_after hkq6 sq5_1 kq5_1_0
    have kq6_1_1 : q6.cell? ⟨q3.heap.size, 1, none⟩ = some (.slice ar1 (hdN a0 n0 f0) cr1) := cell_after hkq6 sq5_1 kq5_1_1
    have sq6_1 : q3.heap.size < q6.heap.size := size_after hkq6 sq5_1
    have kq6_2_0 : q6.cell? ⟨q4.heap.size, 0, none⟩ = some (.int .i64 a0) := cell_after hkq6 sq5_2 kq5_2_0
    have kq6_2_1 : q6.cell? ⟨q4.heap.size, 1, none⟩ = some (.slice a2 n0 c2) := cell_after hkq6 sq5_2 kq5_2_1
    have sq6_2 : q4.heap.size < q6.heap.size := size_after hkq6 sq5_2
    have kq6_3_0 : q6.cell? ⟨q5.heap.size, 0, none⟩ = some (.int .i64 (hdW a0 n0 f0)) := by rw [hcq6 _ _ (by first | (simp; done) | omega | (simp; omega))]; first | assumption | (simp [go_sem]; done) | (simp [go_sem, kq5_0_0, kq5_0_1, kq5_1_0, kq5_1_1, kq5_2_0, kq5_2_1]; done) | (simp [go_sem, *]; done)
    have kq6_3_1 : q6.cell? ⟨q5.heap.size, 1, none⟩ = some (.slice ag (hdN a0 n0 f0) cg) := by rw [hcq6 _ _ (by first | (simp; done) | omega | (simp; omega))]; first | assumption | (simp [go_sem]; done) | (simp [go_sem, kq5_0_0, kq5_0_1, kq5_1_0, kq5_1_1, kq5_2_0, kq5_2_1]; done) | (simp [go_sem, *]; done)
    have sq6_3 : q5.heap.size < q6.heap.size := by first | omega | (simp at *; omega)
    have hBq6 : Below w.heap.size w q6 := (by repeat (first | exact HBq5.out | exact Below.refl _ _ | refine bl_alloc ?_ _ | refine bl_drewN ?_ _ | refine bl_trans (by assumption) ?_ | refine bl_set ?_ (by first | omega | (simp; done) | (simp; omega)) _))
    have HBq6 := Lib.hid hBq6
    clear hBq6 hcq6 hfq6 hbq6 hkq6 kq5_0_0 kq5_0_1 sq5_0 kq5_1_0 kq5_1_1 sq5_1 kq5_2_0 kq5_2_1 sq5_2
    go_wp2_with fail
    have hS1 := (⟨(by first | assumption | (simp [go_sem]; done) | (simp [go_sem, *]; done)), (by first | assumption | (simp [go_sem]; done) | (simp [go_sem, *]; done)), (by first | assumption | (simp [go_sem]; done) | (simp [go_sem, *]; done)), (by first | assumption | (simp [go_sem]; done) | (simp [go_sem, *]; done)), (by first | assumption | (simp [go_sem]; done) | (simp [go_sem, *]; done)), (by first | assumption | (simp [go_sem]; done) | (simp [go_sem, *]; done)), (by first | assumption | (simp [go_sem]; done) | (simp [go_sem, *]; done)), (by first | assumption | (simp [go_sem]; done) | (simp [go_sem, *]; done)), (by first | assumption | omega | (simp; done) | (simp; omega)), (by first | assumption | omega | (simp; done) | (simp; omega)), (by first | assumption | omega | (simp; done) | (simp; omega)), (by first | assumption | omega | (simp; done) | (simp; omega)), (by repeat (first | exact HBq6.out | exact Below.refl _ _ | refine bl_alloc ?_ _ | refine bl_drewN ?_ _ | refine bl_trans (by assumption) ?_ | refine bl_set ?_ (by first | omega | (simp; done) | (simp; omega)) _)), (by repeat (first | exact Below.refl _ _ | refine bl_alloc ?_ _ | refine bl_drewN ?_ _ | refine bl_trans (by assumption) ?_ | refine bl_set ?_ (by first | omega | (simp; done) | (simp; omega)) _))⟩ : q6.cell? ⟨w.heap.size, 0, none⟩ = some (.int .i64 a0) ∧ q6.cell? ⟨w.heap.size, 1, none⟩ = some (.slice a n0 c) ∧ q6.cell? ⟨q3.heap.size, 0, none⟩ = some (.int .i64 (hdW a0 n0 f0)) ∧ q6.cell? ⟨q3.heap.size, 1, none⟩ = some (.slice ar1 (hdN a0 n0 f0) cr1) ∧ q6.cell? ⟨q4.heap.size, 0, none⟩ = some (.int .i64 a0) ∧ q6.cell? ⟨q4.heap.size, 1, none⟩ = some (.slice a2 n0 c2) ∧ q6.cell? ⟨q5.heap.size, 0, none⟩ = some (.int .i64 (hdW a0 n0 f0)) ∧ q6.cell? ⟨q5.heap.size, 1, none⟩ = some (.slice ag (hdN a0 n0 f0) cg) ∧ w.heap.size < q6.heap.size ∧ q3.heap.size < q6.heap.size ∧ q4.heap.size < q6.heap.size ∧ q5.heap.size < q6.heap.size ∧ Below w.heap.size w q6 ∧ Below q6.heap.size q6 q6)
    go_region_held3 (fun w' => w'.cell? ⟨w.heap.size, 0, none⟩ = some (.int .i64 a0) ∧ w'.cell? ⟨w.heap.size, 1, none⟩ = some (.slice a n0 c) ∧ w'.cell? ⟨q3.heap.size, 0, none⟩ = some (.int .i64 (hdW a0 n0 f0)) ∧ w'.cell? ⟨q3.heap.size, 1, none⟩ = some (.slice ar1 (hdN a0 n0 f0) cr1) ∧ w'.cell? ⟨q4.heap.size, 0, none⟩ = some (.int .i64 a0) ∧ w'.cell? ⟨q4.heap.size, 1, none⟩ = some (.slice a2 n0 c2) ∧ w'.cell? ⟨q5.heap.size, 0, none⟩ = some (.int .i64 (hdW a0 n0 f0)) ∧ w'.cell? ⟨q5.heap.size, 1, none⟩ = some (.slice ag (hdN a0 n0 f0) cg) ∧ w.heap.size < w'.heap.size ∧ q3.heap.size < w'.heap.size ∧ q4.heap.size < w'.heap.size ∧ q5.heap.size < w'.heap.size ∧ Below w.heap.size w w' ∧ Below q6.heap.size q6 w') (first | exact SA2_2_2_2_after hbp2 (by assumption) | exact SA2_2_2_2_after hbp1 (by assumption) | exact SA2_2_2_2_after (below_drewN (Below.refl _ _) _) (by assumption) | exact SA2_2_2_2_after (Below.drew (Below.refl _ _)) (by assumption) | assumption) (first | (go_at_call 23; refine (toPuzzle_any a0 _ n0 f0 _ (HH.out.keep (SA2_2_2_2_b1 (w := w) (c := q6) (by assumption))) hn).mono ?_; rintro e p1 ⟨u3, rfl, hO3, hbp1⟩) | (go_at_call 25; refine (eqPuzzle_any a0 _ _ n0 f0 _ (O2.out.toP.keep (SA2_2_2_2_b2 (w := w) (c := q6) (by assumption))) hO3.toP).mono ?_; rintro e p2 ⟨rfl, hbp2⟩) | fail)
    rename_i hh1
    clear hS1 kq6_0_0 kq6_0_1 sq6_0 kq6_1_0 kq6_1_1 sq6_1 kq6_2_0 kq6_2_1 sq6_2 kq6_3_0 kq6_3_1 sq6_3
    obtain ⟨m1_0_0, m1_0_1, m1_1_0, m1_1_1, m1_2_0, m1_2_1, m1_3_0, m1_3_1, ms1_0, ms1_1, ms1_2, ms1_3, hm1, hk1⟩ := hh1
    have HM1 := Lib.hid hm1
    have V := Lib.hid (V.out.keep hk1)
    have O2 := Lib.hid (O2.out.keep hk1)
    have G := Lib.hid (G.out.keep hk1)
    clear hm1 hk1
    go_wp2_with fail
    refine (markPuzzle_any a0 _ n0 f0 _ _ O2.out hn).mono ?_
    rintro e q7 ⟨rfl, hO_, hg_⟩
    have hzq7 := hg_.size
    have nq7_0_0 := cell_far hg_ ms1_0 (box_ne ge_u2.out (by omega)) m1_0_0
    have nq7_0_1 := cell_far hg_ ms1_0 (box_ne ge_u2.out (by omega)) m1_0_1
    have nsq7_0 := Nat.lt_of_lt_of_le ms1_0 hzq7
    have nq7_1_0 := cell_far hg_ ms1_1 (box_ne ge_u2.out (by omega)) m1_1_0
    have nq7_1_1 := cell_far hg_ ms1_1 (box_ne ge_u2.out (by omega)) m1_1_1
    have nsq7_1 := Nat.lt_of_lt_of_le ms1_1 hzq7
    have nq7_2_0 := cell_far hg_ ms1_2 (box_ne' lt_u2.out (by omega)) m1_2_0
    have nq7_2_1 := cell_far hg_ ms1_2 (box_ne' lt_u2.out (by omega)) m1_2_1
    have nsq7_2 := Nat.lt_of_lt_of_le ms1_2 hzq7
    have nq7_3_0 := cell_far hg_ ms1_3 (box_ne' lt_u2.out (by omega)) m1_3_0
    have nq7_3_1 := cell_far hg_ ms1_3 (box_ne' lt_u2.out (by omega)) m1_3_1
    have nsq7_3 := Nat.lt_of_lt_of_le ms1_3 hzq7
    have V := Lib.hid (V.out.other hg_ (row_ne lt_v0.out ge_u2.out (by omega)))
    have G := Lib.hid (G.out.other hg_ (row_ne' ge_g0.out lt_u2.out (by omega)))
    have O2 := Lib.hid hO_
    have HBq7 := Lib.hid (bel_far HM1.out hg_ ge_u2.out (by omega))
    clear hO_ hg_ m1_0_0 m1_0_1 ms1_0 m1_1_0 m1_1_1 ms1_1 m1_2_0 m1_2_1 ms1_2 m1_3_0 m1_3_1 ms1_3
    have hk0 : ¬ (1 + (n0 : Int) * 3 < 0) := by omega
    go_wp2_with fail
    refine (eqPuzzle_any (hdW a0 n0 f0) _ _ (hdN a0 n0 f0) (hdF a0 n0 f0) _ G.out.toP V.out.toP).mono ?_
    rintro e q8 ⟨rfl, hbq8⟩
    obtain ⟨hcq8, hfq8⟩ := bcell hbq8
    have hzq8 := bsize hbq8
    (try simp only [World.size_alloc, World.size_setCell] at hzq8)
    have hkq8 : Below q7.heap.size q7 q8 := (by repeat (first | exact Below.refl _ _ | refine bl_alloc ?_ _ | refine bl_drewN ?_ _ | refine bl_trans (by assumption) ?_ | refine bl_set ?_ (by first | omega | (simp; done) | (simp; omega)) _))
    have V := Lib.hid (V.out.keep hkq8)
    have O2 := Lib.hid (O2.out.keep hkq8)
    have G := Lib.hid (G.out.keep hkq8)
    have kq8_0_0 : q8.cell? ⟨w.heap.size, 0, none⟩ = some (.int .i64 a0) := cell_after hkq8 nsq7_0 nq7_0_0
    have kq8_0_1 : q8.cell? ⟨w.heap.size, 1, none⟩ = some (.slice a n0 c) := cell_after hkq8 nsq7_0 nq7_0_1
    have sq8_0 : w.heap.size < q8.heap.size := size_after hkq8 nsq7_0
    have kq8_1_0 : q8.cell? ⟨q3.heap.size, 0, none⟩ = some (.int .i64 (hdW a0 n0 f0)) := cell_after hkq8 nsq7_1 nq7_1_0
    have kq8_1_1 : q8.cell? ⟨q3.heap.size, 1, none⟩ = some (.slice ar1 (hdN a0 n0 f0) cr1) := cell_after hkq8 nsq7_1 nq7_1_1
    have sq8_1 : q3.heap.size < q8.heap.size := size_after hkq8 nsq7_1
    have kq8_2_0 : q8.cell? ⟨q4.heap.size, 0, none⟩ = some (.int .i64 a0) := cell_after hkq8 nsq7_2 nq7_2_0
    have kq8_2_1 : q8.cell? ⟨q4.heap.size, 1, none⟩ = some (.slice a2 n0 c2) := cell_after hkq8 nsq7_2 nq7_2_1
    have sq8_2 : q4.heap.size < q8.heap.size := size_after hkq8 nsq7_2
    have kq8_3_0 : q8.cell? ⟨q5.heap.size, 0, none⟩ = some (.int .i64 (hdW a0 n0 f0)) := cell_after hkq8 nsq7_3 nq7_3_0
    have kq8_3_1 : q8.cell? ⟨q5.heap.size, 1, none⟩ = some (.slice ag (hdN a0 n0 f0) cg) := cell_after hkq8 nsq7_3 nq7_3_1
    have sq8_3 : q5.heap.size < q8.heap.size := size_after hkq8 nsq7_3
    have hBq8 : Below w.heap.size w q8 := (by repeat (first | exact HBq7.out | exact Below.refl _ _ | refine bl_alloc ?_ _ | refine bl_drewN ?_ _ | refine bl_trans (by assumption) ?_ | refine bl_set ?_ (by first | omega | (simp; done) | (simp; omega)) _))
    have HBq8 := Lib.hid hBq8
    clear hBq8 hcq8 hfq8 hbq8 hkq8 nq7_0_0 nq7_0_1 nsq7_0 nq7_1_0 nq7_1_1 nsq7_1 nq7_2_0 nq7_2_1 nsq7_2 nq7_3_0 nq7_3_1 nsq7_3
    go_wp2_with fail
    refine (markPuzzle_any (hdW a0 n0 f0) _ (hdN a0 n0 f0) _ _ _ G.out hNb).mono ?_
    rintro e q9 ⟨rfl, hO_, hg_⟩
    have hzq9 := hg_.size
    have nq9_0_0 := cell_far hg_ sq8_0 (box_ne ge_g0.out (by omega)) kq8_0_0
    have nq9_0_1 := cell_far hg_ sq8_0 (box_ne ge_g0.out (by omega)) kq8_0_1
    have nsq9_0 := Nat.lt_of_lt_of_le sq8_0 hzq9
    have nq9_1_0 := cell_far hg_ sq8_1 (box_ne ge_g0.out (by omega)) kq8_1_0
    have nq9_1_1 := cell_far hg_ sq8_1 (box_ne ge_g0.out (by omega)) kq8_1_1
    have nsq9_1 := Nat.lt_of_lt_of_le sq8_1 hzq9
    have nq9_2_0 := cell_far hg_ sq8_2 (box_ne ge_g0.out (by omega)) kq8_2_0
    have nq9_2_1 := cell_far hg_ sq8_2 (box_ne ge_g0.out (by omega)) kq8_2_1
    have nsq9_2 := Nat.lt_of_lt_of_le sq8_2 hzq9
    have nq9_3_0 := cell_far hg_ sq8_3 (box_ne' lt_g0.out (by omega)) kq8_3_0
    have nq9_3_1 := cell_far hg_ sq8_3 (box_ne' lt_g0.out (by omega)) kq8_3_1
    have nsq9_3 := Nat.lt_of_lt_of_le sq8_3 hzq9
    have V := Lib.hid (V.out.other hg_ (row_ne lt_v0.out ge_g0.out (by omega)))
    have O2 := Lib.hid (O2.out.other hg_ (row_ne lt_u2.out ge_g0.out (by omega)))
    have G := Lib.hid hO_
    have HBq9 := Lib.hid (bel_far HBq8.out hg_ ge_g0.out (by omega))
    clear hO_ hg_ kq8_0_0 kq8_0_1 sq8_0 kq8_1_0 kq8_1_1 sq8_1 kq8_2_0 kq8_2_1 sq8_2 kq8_3_0 kq8_3_1 sq8_3
    have hk1 : ¬ (1 + ((hdN a0 n0 f0 : Nat) : Int) * 3 < 0) := by omega
    go_wp2_with fail
    refine (heldPuzzle_any (hdW a0 n0 f0) _ (hdN a0 n0 f0) _ G.out.toP hNb).mono ?_
    rintro e q10 ⟨rfl, hbq10⟩
    obtain ⟨hcq10, hfq10⟩ := bcell hbq10
    have hzq10 := bsize hbq10
    (try simp only [World.size_alloc, World.size_setCell] at hzq10)
    have hkq10 : Below q9.heap.size q9 q10 := (by repeat (first | exact Below.refl _ _ | refine bl_alloc ?_ _ | refine bl_drewN ?_ _ | refine bl_trans (by assumption) ?_ | refine bl_set ?_ (by first | omega | (simp; done) | (simp; omega)) _))
    have V := Lib.hid (V.out.keep hkq10)
    have O2 := Lib.hid (O2.out.keep hkq10)
    have G := Lib.hid (G.out.keep hkq10)
    have kq10_0_0 : q10.cell? ⟨w.heap.size, 0, none⟩ = some (.int .i64 a0) := cell_after hkq10 nsq9_0 nq9_0_0
    have kq10_0_1 : q10.cell? ⟨w.heap.size, 1, none⟩ = some (.slice a n0 c) := cell_after hkq10 nsq9_0 nq9_0_1
    have sq10_0 : w.heap.size < q10.heap.size := size_after hkq10 nsq9_0
    have kq10_1_0 : q10.cell? ⟨q3.heap.size, 0, none⟩ = some (.int .i64 (hdW a0 n0 f0)) := cell_after hkq10 nsq9_1 nq9_1_0
    have kq10_1_1 : q10.cell? ⟨q3.heap.size, 1, none⟩ = some (.slice ar1 (hdN a0 n0 f0) cr1) := cell_after hkq10 nsq9_1 nq9_1_1
    have sq10_1 : q3.heap.size < q10.heap.size := size_after hkq10 nsq9_1
    have kq10_2_0 : q10.cell? ⟨q4.heap.size, 0, none⟩ = some (.int .i64 a0) := cell_after hkq10 nsq9_2 nq9_2_0
    have kq10_2_1 : q10.cell? ⟨q4.heap.size, 1, none⟩ = some (.slice a2 n0 c2) := cell_after hkq10 nsq9_2 nq9_2_1
    have sq10_2 : q4.heap.size < q10.heap.size := size_after hkq10 nsq9_2
    have kq10_3_0 : q10.cell? ⟨q5.heap.size, 0, none⟩ = some (.int .i64 (hdW a0 n0 f0)) := cell_after hkq10 nsq9_3 nq9_3_0
    have kq10_3_1 : q10.cell? ⟨q5.heap.size, 1, none⟩ = some (.slice ag (hdN a0 n0 f0) cg) := cell_after hkq10 nsq9_3 nq9_3_1
    have sq10_3 : q5.heap.size < q10.heap.size := size_after hkq10 nsq9_3
    have hBq10 : Below w.heap.size w q10 := (by repeat (first | exact HBq9.out | exact Below.refl _ _ | refine bl_alloc ?_ _ | refine bl_drewN ?_ _ | refine bl_trans (by assumption) ?_ | refine bl_set ?_ (by first | omega | (simp; done) | (simp; omega)) _))
    have HBq10 := Lib.hid hBq10
    clear hBq10 hcq10 hfq10 hbq10 hkq10 nq9_0_0 nq9_0_1 nsq9_0 nq9_1_0 nq9_1_1 nsq9_1 nq9_2_0 nq9_2_1 nsq9_2 nq9_3_0 nq9_3_1 nsq9_3
    go_wp2_with fail
    refine (toPuzzle_any a0 _ n0 f0 _ (HH.out.keep (by repeat (first | exact HBq10.out | exact Below.refl _ _ | refine bl_alloc ?_ _ | refine bl_drewN ?_ _ | refine bl_trans (by assumption) ?_ | refine bl_set ?_ (by first | omega | (simp; done) | (simp; omega)) _))) hn).mono ?_
    rintro e q11 ⟨u4, rfl, hO4, hbq11⟩
    obtain ⟨hcq11, hfq11⟩ := bcell hbq11
    have hzq11 := bsize hbq11
    (try simp only [World.size_alloc, World.size_setCell] at hzq11)
    have hkq11 : Below q10.heap.size q10 q11 := (by repeat (first | exact Below.refl _ _ | refine bl_alloc ?_ _ | refine bl_drewN ?_ _ | refine bl_trans (by assumption) ?_ | refine bl_set ?_ (by first | omega | (simp; done) | (simp; omega)) _))
    have V := Lib.hid (V.out.keep hkq11)
    have G := Lib.hid (G.out.keep hkq11)
    obtain ⟨a4, c4, rfl⟩ := hO4.toP.shape
    have O4 := Lib.hid hO4
    clear hO4
    have kq11_0_0 : q11.cell? ⟨w.heap.size, 0, none⟩ = some (.int .i64 a0) := cell_after hkq11 sq10_0 kq10_0_0
    have kq11_0_1 : q11.cell? ⟨w.heap.size, 1, none⟩ = some (.slice a n0 c) := cell_after hkq11 sq10_0 kq10_0_1
    have sq11_0 : w.heap.size < q11.heap.size := size_after hkq11 sq10_0
    have kq11_1_0 : q11.cell? ⟨q3.heap.size, 0, none⟩ = some (.int .i64 (hdW a0 n0 f0)) := cell_after hkq11 sq10_1 kq10_1_0
    have kq11_1_1 : q11.cell? ⟨q3.heap.size, 1, none⟩ = some (.slice ar1 (hdN a0 n0 f0) cr1) := cell_after hkq11 sq10_1 kq10_1_1
    have sq11_1 : q3.heap.size < q11.heap.size := size_after hkq11 sq10_1
    have kq11_2_0 : q11.cell? ⟨q4.heap.size, 0, none⟩ = some (.int .i64 a0) := cell_after hkq11 sq10_2 kq10_2_0
    have kq11_2_1 : q11.cell? ⟨q4.heap.size, 1, none⟩ = some (.slice a2 n0 c2) := cell_after hkq11 sq10_2 kq10_2_1
    have sq11_2 : q4.heap.size < q11.heap.size := size_after hkq11 sq10_2
    have kq11_3_0 : q11.cell? ⟨q5.heap.size, 0, none⟩ = some (.int .i64 (hdW a0 n0 f0)) := cell_after hkq11 sq10_3 kq10_3_0
    have kq11_3_1 : q11.cell? ⟨q5.heap.size, 1, none⟩ = some (.slice ag (hdN a0 n0 f0) cg) := cell_after hkq11 sq10_3 kq10_3_1
    have sq11_3 : q5.heap.size < q11.heap.size := size_after hkq11 sq10_3
    have hBq11 : Below w.heap.size w q11 := (by repeat (first | exact HBq10.out | exact Below.refl _ _ | refine bl_alloc ?_ _ | refine bl_drewN ?_ _ | refine bl_trans (by assumption) ?_ | refine bl_set ?_ (by first | omega | (simp; done) | (simp; omega)) _))
    have HBq11 := Lib.hid hBq11
    clear hBq11 hcq11 hfq11 hbq11 hkq11 kq10_0_0 kq10_0_1 sq10_0 kq10_1_0 kq10_1_1 sq10_1 kq10_2_0 kq10_2_1 sq10_2 kq10_3_0 kq10_3_1 sq10_3
    go_wp2_with fail
    refine (impl_HarderPuzzle a0 _ n0 f0 _ O4.out.toP O4.out.caps).mono ?_
    rintro e q12 ⟨r2, rfl, hR2, hbq12⟩
    obtain ⟨hcq12, hfq12⟩ := bcell hbq12
    have hzq12 := bsize hbq12
    (try simp only [World.size_alloc, World.size_setCell] at hzq12)
    have hkq12 : Below q11.heap.size q11 q12 := (by repeat (first | exact Below.refl _ _ | refine bl_alloc ?_ _ | refine bl_drewN ?_ _ | refine bl_trans (by assumption) ?_ | refine bl_set ?_ (by first | omega | (simp; done) | (simp; omega)) _))
    have V := Lib.hid (V.out.keep hkq12)
    have G := Lib.hid (G.out.keep hkq12)
    obtain ⟨ar2, cr2, rfl⟩ := hR2.toP.shape
    have kq12_0_0 : q12.cell? ⟨w.heap.size, 0, none⟩ = some (.int .i64 a0) := cell_after hkq12 sq11_0 kq11_0_0
    have kq12_0_1 : q12.cell? ⟨w.heap.size, 1, none⟩ = some (.slice a n0 c) := cell_after hkq12 sq11_0 kq11_0_1
    have sq12_0 : w.heap.size < q12.heap.size := size_after hkq12 sq11_0
    have kq12_1_0 : q12.cell? ⟨q3.heap.size, 0, none⟩ = some (.int .i64 (hdW a0 n0 f0)) := cell_after hkq12 sq11_1 kq11_1_0
    have kq12_1_1 : q12.cell? ⟨q3.heap.size, 1, none⟩ = some (.slice ar1 (hdN a0 n0 f0) cr1) := cell_after hkq12 sq11_1 kq11_1_1
    have sq12_1 : q3.heap.size < q12.heap.size := size_after hkq12 sq11_1
    have kq12_2_0 : q12.cell? ⟨q4.heap.size, 0, none⟩ = some (.int .i64 a0) := cell_after hkq12 sq11_2 kq11_2_0
    have kq12_2_1 : q12.cell? ⟨q4.heap.size, 1, none⟩ = some (.slice a2 n0 c2) := cell_after hkq12 sq11_2 kq11_2_1
    have sq12_2 : q4.heap.size < q12.heap.size := size_after hkq12 sq11_2
    have kq12_3_0 : q12.cell? ⟨q5.heap.size, 0, none⟩ = some (.int .i64 (hdW a0 n0 f0)) := cell_after hkq12 sq11_3 kq11_3_0
    have kq12_3_1 : q12.cell? ⟨q5.heap.size, 1, none⟩ = some (.slice ag (hdN a0 n0 f0) cg) := cell_after hkq12 sq11_3 kq11_3_1
    have sq12_3 : q5.heap.size < q12.heap.size := size_after hkq12 sq11_3
    have hBq12 : Below w.heap.size w q12 := (by repeat (first | exact HBq11.out | exact Below.refl _ _ | refine bl_alloc ?_ _ | refine bl_drewN ?_ _ | refine bl_trans (by assumption) ?_ | refine bl_set ?_ (by first | omega | (simp; done) | (simp; omega)) _))
    have HBq12 := Lib.hid hBq12
    clear hBq12 hcq12 hfq12 hbq12 hkq12 kq11_0_0 kq11_0_1 sq11_0 kq11_1_0 kq11_1_1 sq11_1 kq11_2_0 kq11_2_1 sq11_2 kq11_3_0 kq11_3_1 sq11_3
    have HR := Lib.hid hR2
    clear hR2
    go_wp2_with fail
    refine (eqPuzzle_any (hdW a0 n0 f0) _ _ (hdN a0 n0 f0) (hdF a0 n0 f0) _ (HR.out.toP.keep (by repeat (first | exact Below.refl _ _ | refine bl_alloc ?_ _ | refine bl_drewN ?_ _ | refine bl_trans (by assumption) ?_ | refine bl_set ?_ (by first | omega | (simp; done) | (simp; omega)) _))) (V.out.toP.keep (by repeat (first | exact Below.refl _ _ | refine bl_alloc ?_ _ | refine bl_drewN ?_ _ | refine bl_trans (by assumption) ?_ | refine bl_set ?_ (by first | omega | (simp; done) | (simp; omega)) _)))).mono ?_
    rintro e q13 ⟨rfl, hbq13⟩
    obtain ⟨hcq13, hfq13⟩ := bcell hbq13
    have hzq13 := bsize hbq13
    (try simp only [World.size_alloc, World.size_setCell] at hzq13)
    have hkq13 : Below q12.heap.size q12 q13 := (by repeat (first | exact Below.refl _ _ | refine bl_alloc ?_ _ | refine bl_drewN ?_ _ | refine bl_trans (by assumption) ?_ | refine bl_set ?_ (by first | omega | (simp; done) | (simp; omega)) _))
    have V := Lib.hid (V.out.keep hkq13)
    have G := Lib.hid (G.out.keep hkq13)
    have kq13_0_0 : q13.cell? ⟨w.heap.size, 0, none⟩ = some (.int .i64 a0) := cell_after hkq13 sq12_0 kq12_0_0
    have kq13_0_1 : q13.cell? ⟨w.heap.size, 1, none⟩ = some (.slice a n0 c) := cell_after hkq13 sq12_0 kq12_0_1
    have sq13_0 : w.heap.size < q13.heap.size := size_after hkq13 sq12_0
    have kq13_1_0 : q13.cell? ⟨q3.heap.size, 0, none⟩ = some (.int .i64 (hdW a0 n0 f0)) := cell_after hkq13 sq12_1 kq12_1_0
    have kq13_1_1 : q13.cell? ⟨q3.heap.size, 1, none⟩ = some (.slice ar1 (hdN a0 n0 f0) cr1) := cell_after hkq13 sq12_1 kq12_1_1
    have sq13_1 : q3.heap.size < q13.heap.size := size_after hkq13 sq12_1
    have kq13_2_0 : q13.cell? ⟨q4.heap.size, 0, none⟩ = some (.int .i64 a0) := cell_after hkq13 sq12_2 kq12_2_0
    have kq13_2_1 : q13.cell? ⟨q4.heap.size, 1, none⟩ = some (.slice a2 n0 c2) := cell_after hkq13 sq12_2 kq12_2_1
    have sq13_2 : q4.heap.size < q13.heap.size := size_after hkq13 sq12_2
    have kq13_3_0 : q13.cell? ⟨q5.heap.size, 0, none⟩ = some (.int .i64 (hdW a0 n0 f0)) := cell_after hkq13 sq12_3 kq12_3_0
    have kq13_3_1 : q13.cell? ⟨q5.heap.size, 1, none⟩ = some (.slice ag (hdN a0 n0 f0) cg) := cell_after hkq13 sq12_3 kq12_3_1
    have sq13_3 : q5.heap.size < q13.heap.size := size_after hkq13 sq12_3
    have kq13_4_0 : q13.cell? ⟨q12.heap.size, 0, none⟩ = some (.int .i64 (hdW a0 n0 f0)) := by rw [hcq13 _ _ (by first | (simp; done) | omega | (simp; omega))]; first | assumption | (simp [go_sem]; done) | (simp [go_sem, kq12_0_0, kq12_0_1, kq12_1_0, kq12_1_1, kq12_2_0, kq12_2_1, kq12_3_0, kq12_3_1]; done) | (simp [go_sem, *]; done)
    have kq13_4_1 : q13.cell? ⟨q12.heap.size, 1, none⟩ = some (.slice ar2 (hdN a0 n0 f0) cr2) := by rw [hcq13 _ _ (by first | (simp; done) | omega | (simp; omega))]; first | assumption | (simp [go_sem]; done) | (simp [go_sem, kq12_0_0, kq12_0_1, kq12_1_0, kq12_1_1, kq12_2_0, kq12_2_1, kq12_3_0, kq12_3_1]; done) | (simp [go_sem, *]; done)
    have sq13_4 : q12.heap.size < q13.heap.size := by first | omega | (simp at *; omega)
    have hBq13 : Below w.heap.size w q13 := (by repeat (first | exact HBq12.out | exact Below.refl _ _ | refine bl_alloc ?_ _ | refine bl_drewN ?_ _ | refine bl_trans (by assumption) ?_ | refine bl_set ?_ (by first | omega | (simp; done) | (simp; omega)) _))
    have HBq13 := Lib.hid hBq13
    clear hBq13 hcq13 hfq13 hbq13 hkq13 kq12_0_0 kq12_0_1 sq12_0 kq12_1_0 kq12_1_1 sq12_1 kq12_2_0 kq12_2_1 sq12_2 kq12_3_0 kq12_3_1 sq12_3
    go_wp2_with fail
    refine (heldPuzzle_any (hdW a0 n0 f0) _ (hdN a0 n0 f0) _ G.out.toP hNb).mono ?_
    rintro e q14 ⟨rfl, hbq14⟩
    obtain ⟨hcq14, hfq14⟩ := bcell hbq14
    have hzq14 := bsize hbq14
    (try simp only [World.size_alloc, World.size_setCell] at hzq14)
    have hkq14 : Below q13.heap.size q13 q14 := (by repeat (first | exact Below.refl _ _ | refine bl_alloc ?_ _ | refine bl_drewN ?_ _ | refine bl_trans (by assumption) ?_ | refine bl_set ?_ (by first | omega | (simp; done) | (simp; omega)) _))
    have V := Lib.hid (V.out.keep hkq14)
    have G := Lib.hid (G.out.keep hkq14)
    have kq14_0_0 : q14.cell? ⟨w.heap.size, 0, none⟩ = some (.int .i64 a0) := cell_after hkq14 sq13_0 kq13_0_0
    have kq14_0_1 : q14.cell? ⟨w.heap.size, 1, none⟩ = some (.slice a n0 c) := cell_after hkq14 sq13_0 kq13_0_1
    have sq14_0 : w.heap.size < q14.heap.size := size_after hkq14 sq13_0
    have kq14_1_0 : q14.cell? ⟨q3.heap.size, 0, none⟩ = some (.int .i64 (hdW a0 n0 f0)) := cell_after hkq14 sq13_1 kq13_1_0
    have kq14_1_1 : q14.cell? ⟨q3.heap.size, 1, none⟩ = some (.slice ar1 (hdN a0 n0 f0) cr1) := cell_after hkq14 sq13_1 kq13_1_1
    have sq14_1 : q3.heap.size < q14.heap.size := size_after hkq14 sq13_1
    have kq14_2_0 : q14.cell? ⟨q4.heap.size, 0, none⟩ = some (.int .i64 a0) := cell_after hkq14 sq13_2 kq13_2_0
    have kq14_2_1 : q14.cell? ⟨q4.heap.size, 1, none⟩ = some (.slice a2 n0 c2) := cell_after hkq14 sq13_2 kq13_2_1
    have sq14_2 : q4.heap.size < q14.heap.size := size_after hkq14 sq13_2
    have kq14_3_0 : q14.cell? ⟨q5.heap.size, 0, none⟩ = some (.int .i64 (hdW a0 n0 f0)) := cell_after hkq14 sq13_3 kq13_3_0
    have kq14_3_1 : q14.cell? ⟨q5.heap.size, 1, none⟩ = some (.slice ag (hdN a0 n0 f0) cg) := cell_after hkq14 sq13_3 kq13_3_1
    have sq14_3 : q5.heap.size < q14.heap.size := size_after hkq14 sq13_3
    have kq14_4_0 : q14.cell? ⟨q12.heap.size, 0, none⟩ = some (.int .i64 (hdW a0 n0 f0)) := cell_after hkq14 sq13_4 kq13_4_0
    have kq14_4_1 : q14.cell? ⟨q12.heap.size, 1, none⟩ = some (.slice ar2 (hdN a0 n0 f0) cr2) := cell_after hkq14 sq13_4 kq13_4_1
    have sq14_4 : q12.heap.size < q14.heap.size := size_after hkq14 sq13_4
    have hBq14 : Below w.heap.size w q14 := (by repeat (first | exact HBq13.out | exact Below.refl _ _ | refine bl_alloc ?_ _ | refine bl_drewN ?_ _ | refine bl_trans (by assumption) ?_ | refine bl_set ?_ (by first | omega | (simp; done) | (simp; omega)) _))
    have HBq14 := Lib.hid hBq14
    clear hBq14 hcq14 hfq14 hbq14 hkq14 kq13_0_0 kq13_0_1 sq13_0 kq13_1_0 kq13_1_1 sq13_1 kq13_2_0 kq13_2_1 sq13_2 kq13_3_0 kq13_3_1 sq13_3 kq13_4_0 kq13_4_1 sq13_4
    go_wp2
    go_ret
    exact ⟨rfl, (by repeat (first | exact HBq14.out | exact Below.refl _ _ | refine bl_alloc ?_ _ | refine bl_drewN ?_ _ | refine bl_trans (by assumption) ?_ | refine bl_set ?_ (by first | omega | (simp; done) | (simp; omega)) _))⟩
  · go_enter Try.func16, Try.ntmps16
    go_wp2_with fail
    refine (szPuzzle_any a0 _ n0 f0 _ (HH.out.keep (by repeat (first | exact Below.refl _ _ | refine bl_alloc ?_ _ | refine bl_drewN ?_ _ | refine bl_trans (by assumption) ?_ | refine bl_set ?_ (by first | omega | (simp; done) | (simp; omega)) _)))).mono ?_
    rintro e w1 ⟨rfl, hb1⟩
    rw [if_neg hn]
    go_wp2
    go_ret
    exact ⟨rfl, (by repeat (first | exact Below.refl _ _ | refine bl_alloc ?_ _ | refine bl_drewN ?_ _ | refine bl_trans hb1 ?_ | refine bl_set ?_ (by first | omega | (simp; done) | (simp; omega)) _))⟩

set_option maxRecDepth 100000 in
theorem lifted (os : Os) (started : os.Started) (H : Type) (enc : TypeId × Value → H) :
    ReturnsInHanded {} Try.checked os 16 .any (Rows.fnExactHarderPuzzleSpec.pre6 enc Try.prog Try.f16 Rows.fnExactHarderPuzzleRow.domain false) (Rows.fnExactHarderPuzzleSpec.post enc Try.prog Try.f16 false true false false) := by
  refine returnsInHanded_of_change (C := Try.checked) own started (by kernel_rfl) Try.func16
    (ChangeSpec.witness6 (enc := enc) (C := Try.checked) false ⟨#[], #[.agg #[.int .i64 0, .slice none 0 0]], []⟩ 8 (by kernel_rfl) (by kernel_rfl) (by kernel_rfl) (by kernel_rfl)) ?_
  intro W base args ds gs before hval0 hW hcnd _
  have hval : ∀ (j : Nat) t v, Try.f16.params[j]? = some t → args[j]? = some v → Value.okWide Try.prog W .any base t v := hval0
  have hW' := hW
  obtain ⟨p, q, hA0, hV, rfl, hfz, hnd⟩ := hW
  have hA : DataW.TrodAll enc Try.prog W 0 (fun _ => true) true Try.f16.params.toList args.toList ds p := hA0
  rw [Try.params16] at hA hval
  obtain ⟨v0, vs0, d0, ds0, p0, q0, hargs, rfl, rfl, h0, r0⟩ := trodAll_cons hA
  obtain ⟨rfl, rfl, rfl⟩ := trodAll_nil r0
  obtain rfl : args = #[v0] := by cases args; simp_all
  obtain ⟨rfl, rfl⟩ := trodVars_none hV
  have k0 := h0
  have lt0 : ∀ x ∈ p0, x.block < W.heap.size := by obtain ⟨m, hm⟩ := k0; exact DataW.trod_lt m _ _ _ hm
  obtain ⟨c0, v0c, y00, y01, m0, rfl, rfl, rfl, hy00, hy01⟩ := open_agg2 Try.underlying30 (by kernel_rfl) (by kernel_rfl) (hval 0 30 v0 rfl rfl) h0
  obtain ⟨a0, e00, rfl, w0⟩ := DataW.trod_int Try.underlying3 hy00
  simp at e00
  subst e00
  obtain ⟨n0, f0, hP0⟩ := open_clues hy01
  clear hA0 hval0
  refine (walk a0 v0c n0 f0 w0 W hP0).mono fun e W' ⟨he, bel⟩ => ?_
  subst he
  exact ⟨_, rfl, _, _, _, [], _, [], hW', trodAll_mk1 (shut_bool Try.underlying4 _), (trodAll_cons_mk (Below.trod laidOut (by kernel_rfl) (of_decide_eq_true (by kernel_rfl)) k0 bel lt0) trodAll_mk0), rfl, bel.frame _, fun h => by cases h⟩

theorem over : Rows.fnExactHarderPuzzleRow.holds Try.pinned (OpenSpec.ofChange Rows.fnExactHarderPuzzleSpec) :=
  OpenClaim.holds_of_wide 16 Try.f16 rfl rfl rfl rfl rfl rfl rfl ⟨rfl, rfl, rfl, rfl, rfl⟩ rfl rfl rfl rfl rfl (by kernel_rfl) Try.func16 (by simp only [joinedFacts, make, lifts, may, Bool.and_true]; kernel_rfl)
    (of_decide_eq_true (by kernel_rfl)) (by unfold Func.isWrapper; first | (rw [if_pos (by decide +kernel)]; kernel_rfl) | (rw [if_neg (by decide +kernel)]; exact ⟨rfl, rfl⟩))
    (fun os started H enc _ => lifted os started H enc)

theorem proved : Rows.FnExactHarderPuzzleSaid := over
#print axioms proved
end Go.Proofs.Ytgghceckpdfogaa.fnExactHarderPuzzle

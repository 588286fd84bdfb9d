/- The law 'FnExactAddClue' holds for every input. -/
import Derived.Test.YtahcfjpplkemdaaPZL
import Derived.Test.YtahcfjpplkemdaaPZC
import Derived.Deep.Cut
import Derived.Deep.DeepCutAuto
import Derived.Test.YtahcfjpplkemdaaO
import Derived.ProofKit
import Derived.OpenShut
import Derived.ShutString
import Derived.ChangeOld
import Derived.Lib.SmallJoins
namespace Go.Proofs.Ytahcfjpplkemdaa.fnExactAddClue
open Go.ChangeShapes Go.WideShapes Go.ChangeAt Go.RowKit Go.Joins
open Go.ChangeMaps (open_string shut_string)
set_option linter.unusedVariables false
set_option linter.unusedSimpArgs false
theorem own : ownKnob Try.prog.godebug = none := by kernel_rfl
theorem laidOut : laidOutB Try.prog = true := by kernel_rfl
theorem SB2_3_after {A0 A1 : Nat} {x00 x01 x10 x11 x12 : Value} {W0 v : World} (h00 : W0.cell? ⟨A0, 0, none⟩ = some x00) (h01 : W0.cell? ⟨A0, 1, none⟩ = some x01) (h10 : W0.cell? ⟨A1, 0, none⟩ = some x10) (h11 : W0.cell? ⟨A1, 1, none⟩ = some x11) (h12 : W0.cell? ⟨A1, 2, none⟩ = some x12) (l0 : A0 < W0.heap.size) (l1 : A1 < W0.heap.size) (hb : Below W0.heap.size W0 v) : v.cell? ⟨A0, 0, none⟩ = some x00 ∧ v.cell? ⟨A0, 1, none⟩ = some x01 ∧ v.cell? ⟨A1, 0, none⟩ = some x10 ∧ v.cell? ⟨A1, 1, none⟩ = some x11 ∧ v.cell? ⟨A1, 2, none⟩ = some x12 ∧ Below W0.heap.size W0 v :=
  ⟨cell_after hb l0 h00, cell_after hb l0 h01, cell_after hb l1 h10, cell_after hb l1 h11, cell_after hb l1 h12, hb⟩
theorem SB2_3_last {A0 A1 : Nat} {x00 x01 x10 x11 x12 : Value} {W0 v : World} (h : v.cell? ⟨A0, 0, none⟩ = some x00 ∧ v.cell? ⟨A0, 1, none⟩ = some x01 ∧ v.cell? ⟨A1, 0, none⟩ = some x10 ∧ v.cell? ⟨A1, 1, none⟩ = some x11 ∧ v.cell? ⟨A1, 2, none⟩ = some x12 ∧ Below W0.heap.size W0 v) : Below W0.heap.size W0 v := h.2.2.2.2.2
theorem SB2_3_2_2_after {A0 A1 A2 A3 : Nat} {x00 x01 x10 x11 x12 x20 x21 x30 x31 : Value} {W0 v : World} (h00 : W0.cell? ⟨A0, 0, none⟩ = some x00) (h01 : W0.cell? ⟨A0, 1, none⟩ = some x01) (h10 : W0.cell? ⟨A1, 0, none⟩ = some x10) (h11 : W0.cell? ⟨A1, 1, none⟩ = some x11) (h12 : W0.cell? ⟨A1, 2, none⟩ = some x12) (h20 : W0.cell? ⟨A2, 0, none⟩ = some x20) (h21 : W0.cell? ⟨A2, 1, none⟩ = some x21) (h30 : W0.cell? ⟨A3, 0, none⟩ = some x30) (h31 : W0.cell? ⟨A3, 1, none⟩ = some x31) (l0 : A0 < W0.heap.size) (l1 : A1 < W0.heap.size) (l2 : A2 < W0.heap.size) (l3 : A3 < W0.heap.size) (hb : Below W0.heap.size W0 v) : v.cell? ⟨A0, 0, none⟩ = some x00 ∧ v.cell? ⟨A0, 1, none⟩ = some x01 ∧ v.cell? ⟨A1, 0, none⟩ = some x10 ∧ v.cell? ⟨A1, 1, none⟩ = some x11 ∧ v.cell? ⟨A1, 2, none⟩ = some x12 ∧ v.cell? ⟨A2, 0, none⟩ = some x20 ∧ v.cell? ⟨A2, 1, none⟩ = some x21 ∧ v.cell? ⟨A3, 0, none⟩ = some x30 ∧ v.cell? ⟨A3, 1, none⟩ = some x31 ∧ Below W0.heap.size W0 v :=
  ⟨cell_after hb l0 h00, cell_after hb l0 h01, cell_after hb l1 h10, cell_after hb l1 h11, cell_after hb l1 h12, cell_after hb l2 h20, cell_after hb l2 h21, cell_after hb l3 h30, cell_after hb l3 h31, hb⟩
theorem SB2_3_2_2_last {A0 A1 A2 A3 : Nat} {x00 x01 x10 x11 x12 x20 x21 x30 x31 : Value} {W0 v : World} (h : v.cell? ⟨A0, 0, none⟩ = some x00 ∧ v.cell? ⟨A0, 1, none⟩ = some x01 ∧ v.cell? ⟨A1, 0, none⟩ = some x10 ∧ v.cell? ⟨A1, 1, none⟩ = some x11 ∧ v.cell? ⟨A1, 2, none⟩ = some x12 ∧ v.cell? ⟨A2, 0, none⟩ = some x20 ∧ v.cell? ⟨A2, 1, none⟩ = some x21 ∧ v.cell? ⟨A3, 0, none⟩ = some x30 ∧ v.cell? ⟨A3, 1, none⟩ = some x31 ∧ Below W0.heap.size W0 v) : Below W0.heap.size W0 v := h.2.2.2.2.2.2.2.2.2
theorem SB2_3_2_2_2_after {A0 A1 A2 A3 A4 : Nat} {x00 x01 x10 x11 x12 x20 x21 x30 x31 x40 x41 : Value} {W0 v : World} (h00 : W0.cell? ⟨A0, 0, none⟩ = some x00) (h01 : W0.cell? ⟨A0, 1, none⟩ = some x01) (h10 : W0.cell? ⟨A1, 0, none⟩ = some x10) (h11 : W0.cell? ⟨A1, 1, none⟩ = some x11) (h12 : W0.cell? ⟨A1, 2, none⟩ = some x12) (h20 : W0.cell? ⟨A2, 0, none⟩ = some x20) (h21 : W0.cell? ⟨A2, 1, none⟩ = some x21) (h30 : W0.cell? ⟨A3, 0, none⟩ = some x30) (h31 : W0.cell? ⟨A3, 1, none⟩ = some x31) (h40 : W0.cell? ⟨A4, 0, none⟩ = some x40) (h41 : W0.cell? ⟨A4, 1, none⟩ = some x41) (l0 : A0 < W0.heap.size) (l1 : A1 < W0.heap.size) (l2 : A2 < W0.heap.size) (l3 : A3 < W0.heap.size) (l4 : A4 < W0.heap.size) (hb : Below W0.heap.size W0 v) : v.cell? ⟨A0, 0, none⟩ = some x00 ∧ v.cell? ⟨A0, 1, none⟩ = some x01 ∧ v.cell? ⟨A1, 0, none⟩ = some x10 ∧ v.cell? ⟨A1, 1, none⟩ = some x11 ∧ v.cell? ⟨A1, 2, none⟩ = some x12 ∧ v.cell? ⟨A2, 0, none⟩ = some x20 ∧ v.cell? ⟨A2, 1, none⟩ = some x21 ∧ v.cell? ⟨A3, 0, none⟩ = some x30 ∧ v.cell? ⟨A3, 1, none⟩ = some x31 ∧ v.cell? ⟨A4, 0, none⟩ = some x40 ∧ v.cell? ⟨A4, 1, none⟩ = some x41 ∧ Below W0.heap.size W0 v :=
  ⟨cell_after hb l0 h00, cell_after hb l0 h01, cell_after hb l1 h10, cell_after hb l1 h11, cell_after hb l1 h12, cell_after hb l2 h20, cell_after hb l2 h21, cell_after hb l3 h30, cell_after hb l3 h31, cell_after hb l4 h40, cell_after hb l4 h41, hb⟩
theorem SB2_3_2_2_2_last {A0 A1 A2 A3 A4 : Nat} {x00 x01 x10 x11 x12 x20 x21 x30 x31 x40 x41 : Value} {W0 v : World} (h : v.cell? ⟨A0, 0, none⟩ = some x00 ∧ v.cell? ⟨A0, 1, none⟩ = some x01 ∧ v.cell? ⟨A1, 0, none⟩ = some x10 ∧ v.cell? ⟨A1, 1, none⟩ = some x11 ∧ v.cell? ⟨A1, 2, none⟩ = some x12 ∧ v.cell? ⟨A2, 0, none⟩ = some x20 ∧ v.cell? ⟨A2, 1, none⟩ = some x21 ∧ v.cell? ⟨A3, 0, none⟩ = some x30 ∧ v.cell? ⟨A3, 1, none⟩ = some x31 ∧ v.cell? ⟨A4, 0, none⟩ = some x40 ∧ v.cell? ⟨A4, 1, none⟩ = some x41 ∧ Below W0.heap.size W0 v) : Below W0.heap.size W0 v := h.2.2.2.2.2.2.2.2.2.2.2
theorem SA2_3_2_2_2_after {w c u v : World} {A0 A1 A2 A3 A4 : Nat} {x00 x01 x10 x11 x12 x20 x21 x30 x31 x40 x41 : Value} (hb : Below u.heap.size u v) (h : u.cell? ⟨A0, 0, none⟩ = some x00 ∧ u.cell? ⟨A0, 1, none⟩ = some x01 ∧ u.cell? ⟨A1, 0, none⟩ = some x10 ∧ u.cell? ⟨A1, 1, none⟩ = some x11 ∧ u.cell? ⟨A1, 2, none⟩ = some x12 ∧ u.cell? ⟨A2, 0, none⟩ = some x20 ∧ u.cell? ⟨A2, 1, none⟩ = some x21 ∧ u.cell? ⟨A3, 0, none⟩ = some x30 ∧ u.cell? ⟨A3, 1, none⟩ = some x31 ∧ u.cell? ⟨A4, 0, none⟩ = some x40 ∧ u.cell? ⟨A4, 1, none⟩ = some x41 ∧ A0 < u.heap.size ∧ A1 < u.heap.size ∧ A2 < u.heap.size ∧ A3 < u.heap.size ∧ A4 < u.heap.size ∧ Below w.heap.size w u ∧ Below c.heap.size c u) : v.cell? ⟨A0, 0, none⟩ = some x00 ∧ v.cell? ⟨A0, 1, none⟩ = some x01 ∧ v.cell? ⟨A1, 0, none⟩ = some x10 ∧ v.cell? ⟨A1, 1, none⟩ = some x11 ∧ v.cell? ⟨A1, 2, none⟩ = some x12 ∧ v.cell? ⟨A2, 0, none⟩ = some x20 ∧ v.cell? ⟨A2, 1, none⟩ = some x21 ∧ v.cell? ⟨A3, 0, none⟩ = some x30 ∧ v.cell? ⟨A3, 1, none⟩ = some x31 ∧ v.cell? ⟨A4, 0, none⟩ = some x40 ∧ v.cell? ⟨A4, 1, none⟩ = some x41 ∧ A0 < v.heap.size ∧ A1 < v.heap.size ∧ A2 < v.heap.size ∧ A3 < v.heap.size ∧ A4 < v.heap.size ∧ Below w.heap.size w v ∧ Below c.heap.size c v := by
  obtain ⟨h0, h1, h2, h3, h4, h5, h6, h7, h8, h9, h10, h11, h12, h13, h14, h15, h16, h17⟩ := h
  exact ⟨by rw [(bcell hb).1 _ _ h11]; exact h0, by rw [(bcell hb).1 _ _ h11]; exact h1, by rw [(bcell hb).1 _ _ h12]; exact h2, by rw [(bcell hb).1 _ _ h12]; exact h3, by rw [(bcell hb).1 _ _ h12]; exact h4, by rw [(bcell hb).1 _ _ h13]; exact h5, by rw [(bcell hb).1 _ _ h13]; exact h6, by rw [(bcell hb).1 _ _ h14]; exact h7, by rw [(bcell hb).1 _ _ h14]; exact h8, by rw [(bcell hb).1 _ _ h15]; exact h9, by rw [(bcell hb).1 _ _ h15]; exact h10, Nat.lt_of_lt_of_le h11 hb.size, Nat.lt_of_lt_of_le h12 hb.size, Nat.lt_of_lt_of_le h13 hb.size, Nat.lt_of_lt_of_le h14 hb.size, Nat.lt_of_lt_of_le h15 hb.size, bl_trans hb h16, bl_trans hb h17⟩
theorem SA2_3_2_2_2_b1 {w c u : World} {A0 A1 A2 A3 A4 : Nat} {x00 x01 x10 x11 x12 x20 x21 x30 x31 x40 x41 : Value} (h : u.cell? ⟨A0, 0, none⟩ = some x00 ∧ u.cell? ⟨A0, 1, none⟩ = some x01 ∧ u.cell? ⟨A1, 0, none⟩ = some x10 ∧ u.cell? ⟨A1, 1, none⟩ = some x11 ∧ u.cell? ⟨A1, 2, none⟩ = some x12 ∧ u.cell? ⟨A2, 0, none⟩ = some x20 ∧ u.cell? ⟨A2, 1, none⟩ = some x21 ∧ u.cell? ⟨A3, 0, none⟩ = some x30 ∧ u.cell? ⟨A3, 1, none⟩ = some x31 ∧ u.cell? ⟨A4, 0, none⟩ = some x40 ∧ u.cell? ⟨A4, 1, none⟩ = some x41 ∧ A0 < u.heap.size ∧ A1 < u.heap.size ∧ A2 < u.heap.size ∧ A3 < u.heap.size ∧ A4 < u.heap.size ∧ Below w.heap.size w u ∧ Below c.heap.size c u) : Below w.heap.size w u := h.2.2.2.2.2.2.2.2.2.2.2.2.2.2.2.2.1
theorem SA2_3_2_2_2_b2 {w c u : World} {A0 A1 A2 A3 A4 : Nat} {x00 x01 x10 x11 x12 x20 x21 x30 x31 x40 x41 : Value} (h : u.cell? ⟨A0, 0, none⟩ = some x00 ∧ u.cell? ⟨A0, 1, none⟩ = some x01 ∧ u.cell? ⟨A1, 0, none⟩ = some x10 ∧ u.cell? ⟨A1, 1, none⟩ = some x11 ∧ u.cell? ⟨A1, 2, none⟩ = some x12 ∧ u.cell? ⟨A2, 0, none⟩ = some x20 ∧ u.cell? ⟨A2, 1, none⟩ = some x21 ∧ u.cell? ⟨A3, 0, none⟩ = some x30 ∧ u.cell? ⟨A3, 1, none⟩ = some x31 ∧ u.cell? ⟨A4, 0, none⟩ = some x40 ∧ u.cell? ⟨A4, 1, none⟩ = some x41 ∧ A0 < u.heap.size ∧ A1 < u.heap.size ∧ A2 < u.heap.size ∧ A3 < u.heap.size ∧ A4 < u.heap.size ∧ Below w.heap.size w u ∧ Below c.heap.size c u) : Below c.heap.size c u := h.2.2.2.2.2.2.2.2.2.2.2.2.2.2.2.2.2

set_option maxRecDepth 100000 in
set_option maxHeartbeats 10000000 in
theorem walk (a0 : Int) (v0c : Value) (n0 : Nat) (f0 : Nat → Int) (a10 : Int) (a11 : Int) (a12 : Int) (w0 : (Lit.int .i64 a0).wf = true) (w10 : (Lit.int .i64 a10).wf = true) (w11 : (Lit.int .i64 a11).wf = true) (w12 : (Lit.int .i64 a12).wf = true) (w : World) (hP0 : PClu w v0c n0 f0) :
    Calls Try.prog 5 #[.agg #[.int .i64 a0, v0c], .agg #[.int .i64 a10, .int .i64 a11, .int .i64 a12]] w fun e w' => e = .returned (.bool true) ∧ Below w.heap.size w w' := by
  have HH := Lib.hid hP0
  clear hP0
  obtain ⟨a, c, hv⟩ := HH.out.shape
  subst hv
  by_cases hn : n0 ≤ 1048576
  · go_enter Try.func5, Try.ntmps5
    have hNb : adN a0 n0 f0 a10 a11 a12 ≤ 1048577 := Nat.le_trans (adN_le _ _ _ _ _ _) (by omega)
    have hNc : adN a0 n0 f0 a10 a11 a12 ≤ 1048576 := by unfold adN; split <;> first | omega | (rename_i h; simp [aok] at h; have := okP_true h.1; omega)
    clear hNb
    go_wp2_with fail
    refine (szPuzzle_any a0 _ n0 f0 _ (HH.out.keep (by repeat (first | exact Below.refl _ _ | refine bl_alloc ?_ _ | refine bl_drewN ?_ _ | refine bl_trans (by assumption) ?_ | refine bl_set ?_ (by first | omega | (simp; done) | (simp; omega)) _)))).mono ?_
    rintro e q1 ⟨rfl, hbq1⟩
    obtain ⟨hcq1, hfq1⟩ := bcell hbq1
    have hzq1 := bsize hbq1
    (try simp only [World.size_alloc, World.size_setCell] at hzq1)
    have kq1_0_0 : q1.cell? ⟨w.heap.size, 0, none⟩ = some (.int .i64 a0) := by rw [hcq1 _ _ (by first | (simp; done) | omega | (simp; omega))]; first | assumption | (simp [go_sem]; done) | (simp [go_sem]; done) | (simp [go_sem, *]; done)
    have kq1_0_1 : q1.cell? ⟨w.heap.size, 1, none⟩ = some (.slice a n0 c) := by rw [hcq1 _ _ (by first | (simp; done) | omega | (simp; omega))]; first | assumption | (simp [go_sem]; done) | (simp [go_sem]; done) | (simp [go_sem, *]; done)
    have sq1_0 : w.heap.size < q1.heap.size := by first | omega | (simp at *; omega)
    have kq1_1_0 : q1.cell? ⟨w.heap.size + 1, 0, none⟩ = some (.int .i64 a10) := by rw [hcq1 _ _ (by first | (simp; done) | omega | (simp; omega))]; first | assumption | (simp [go_sem]; done) | (simp [go_sem]; done) | (simp [go_sem, *]; done)
    have kq1_1_1 : q1.cell? ⟨w.heap.size + 1, 1, none⟩ = some (.int .i64 a11) := by rw [hcq1 _ _ (by first | (simp; done) | omega | (simp; omega))]; first | assumption | (simp [go_sem]; done) | (simp [go_sem]; done) | (simp [go_sem, *]; done)
    have kq1_1_2 : q1.cell? ⟨w.heap.size + 1, 2, none⟩ = some (.int .i64 a12) := by rw [hcq1 _ _ (by first | (simp; done) | omega | (simp; omega))]; first | assumption | (simp [go_sem]; done) | (simp [go_sem]; done) | (simp [go_sem, *]; done)
    have sq1_1 : w.heap.size + 1 < q1.heap.size := by first | omega | (simp at *; omega)
    have hBq1 : Below w.heap.size w q1 := (by repeat (first | exact Below.refl _ _ | refine bl_alloc ?_ _ | refine bl_drewN ?_ _ | refine bl_trans (by assumption) ?_ | refine bl_set ?_ (by first | omega | (simp; done) | (simp; omega)) _))
    have HBq1 := Lib.hid hBq1
    clear hBq1 hcq1 hfq1 hbq1
    rw [if_pos hn]
    go_upto_region 5 with fail
    have y1_0_0 : q1.cell? ⟨w.heap.size, 0, none⟩ = some (.int .i64 a0) := (by first | assumption | (simp [go_sem]; done) | (simp [go_sem, *]; done))
    have y1_0_1 : q1.cell? ⟨w.heap.size, 1, none⟩ = some (.slice a n0 c) := (by first | assumption | (simp [go_sem]; done) | (simp [go_sem, *]; done))
    have z1_0 : w.heap.size < q1.heap.size := by first | assumption | omega | (simp; done) | (simp; omega)
    have y1_1_0 : q1.cell? ⟨w.heap.size + 1, 0, none⟩ = some (.int .i64 a10) := (by first | assumption | (simp [go_sem]; done) | (simp [go_sem, *]; done))
    have y1_1_1 : q1.cell? ⟨w.heap.size + 1, 1, none⟩ = some (.int .i64 a11) := (by first | assumption | (simp [go_sem]; done) | (simp [go_sem, *]; done))
    have y1_1_2 : q1.cell? ⟨w.heap.size + 1, 2, none⟩ = some (.int .i64 a12) := (by first | assumption | (simp [go_sem]; done) | (simp [go_sem, *]; done))
    have z1_1 : w.heap.size + 1 < q1.heap.size := by first | assumption | omega | (simp; done) | (simp; omega)
    have HZ1 := Lib.hid (show Below w.heap.size w q1 by repeat (first | exact HBq1.out | exact Below.refl _ _ | refine bl_alloc ?_ _ | refine bl_drewN ?_ _ | refine bl_trans (by assumption) ?_ | refine bl_set ?_ (by first | omega | (simp; done) | (simp; omega)) _))
    have hsz1 := (show Below q1.heap.size q1 q1 by repeat (first | exact Below.refl _ _ | refine bl_alloc ?_ _ | refine bl_drewN ?_ _ | refine bl_trans (by assumption) ?_ | refine bl_set ?_ (by first | omega | (simp; done) | (simp; omega)) _)).size
    clear kq1_0_0 kq1_0_1 sq1_0 kq1_1_0 kq1_1_1 kq1_1_2 sq1_1
    generalize q1 = wz1 at *
    have HS1 := Lib.hid (fun v hb => SB2_3_after (v := v) y1_0_0 y1_0_1 y1_1_0 y1_1_1 y1_1_2 z1_0 z1_1 hb)
    have hS1 := HS1.out wz1 (Below.refl _ _)
    go_cut [6, 7] (fun s6 s7 wx => ∃ p u, s6 = .pointer (some ⟨p, 0, none⟩) ∧ s7 = .bool (aok a0 n0 f0 a10 a11 a12) ∧ wx.cell? ⟨p, 0, none⟩ = some (.int .i64 (adW a0 n0 f0 a10 a11 a12)) ∧ wx.cell? ⟨p, 1, none⟩ = some u ∧ OClu wx wz1.heap.size u (adN a0 n0 f0 a10 a11 a12) (snocF f0 n0 a10 a11 a12) ∧ (∀ g, u.ownBlock = some g → g ≠ p) ∧ wz1.heap.size ≤ p ∧ p < wx.heap.size ∧ Below wz1.heap.size wz1 wx)
    case first =>
      go_region_held3 (fun w' => w'.cell? ⟨w.heap.size, 0, none⟩ = some (.int .i64 a0) ∧ w'.cell? ⟨w.heap.size, 1, none⟩ = some (.slice a n0 c) ∧ w'.cell? ⟨w.heap.size + 1, 0, none⟩ = some (.int .i64 a10) ∧ w'.cell? ⟨w.heap.size + 1, 1, none⟩ = some (.int .i64 a11) ∧ w'.cell? ⟨w.heap.size + 1, 2, none⟩ = some (.int .i64 a12) ∧ Below wz1.heap.size wz1 w') (first | exact HS1.out _ hkhba | exact HS1.out _ hkhbb | exact HS1.out _ hkhbc | exact HS1.out _ (bl_alloc hkhba _) | exact HS1.out _ (bl_alloc hkhbb _) | exact HS1.out _ (bl_alloc hkhbc _) | exact HS1.out _ (bl_set (bl_set hkhba (by first | omega | (simp; done) | (simp; omega)) _) (by first | omega | (simp; done) | (simp; omega)) _) | exact HS1.out _ (bl_set (bl_set hkhbb (by first | omega | (simp; done) | (simp; omega)) _) (by first | omega | (simp; done) | (simp; omega)) _) | exact HS1.out _ (bl_set (bl_set hkhbc (by first | omega | (simp; done) | (simp; omega)) _) (by first | omega | (simp; done) | (simp; omega)) _) | exact HS1.out _ (Below.drew (Below.refl _ _)) | exact HS1.out _ (bl_alloc (Below.drew (Below.refl _ _)) _) | exact HS1.out _ (bl_alloc (Below.refl _ _) _) | exact HS1.out _ (Below.drew (bl_alloc (Below.refl _ _) _)) | assumption) (first | (go_at_call 18; refine (toPuzzle_any a0 _ n0 f0 _ (HH.out.keep ?hk) hn).mono ?_; (case hk => repeat (first | exact Below.refl _ _ | exact HZ1.out | refine bl_alloc ?_ _ | refine bl_drewN ?_ _ | refine Below.drew ?_ | refine bl_trans hba ?_ | refine bl_trans hbb ?_ | refine bl_trans hbc ?_)); rintro e whba ⟨u1, rfl, hO1, hba⟩; have hzhba := hba.size; (try simp [Nat.succ_le_iff] at hzhba); obtain ⟨hchba, hfhba⟩ := bcell hba; have hkhba : Below wz1.heap.size wz1 whba := bl_trans hba (SB2_3_last (by assumption)); (try have zwhbawz1 : wz1.heap.size < whba.heap.size := by omega); (try have zwhbawhbb : whbb.heap.size < whba.heap.size := by omega); (try have zwhbawhbc : whbc.heap.size < whba.heap.size := by omega); obtain ⟨a1, c1, rfl⟩ := hO1.toP.shape) | (go_at_call 19; refine (toClue_any _ _ _ _).mono ?_; rintro e whbb ⟨rfl, hbb⟩; have hzhbb := hbb.size; (try simp [Nat.succ_le_iff] at hzhbb); obtain ⟨hchbb, hfhbb⟩ := bcell hbb; have hkhbb : Below wz1.heap.size wz1 whbb := bl_trans hbb (SB2_3_last (by assumption)); (try have zwhbbwz1 : wz1.heap.size < whbb.heap.size := by omega); (try have zwhbbwhba : whba.heap.size < whbb.heap.size := by omega); (try have zwhbbwhbc : whbc.heap.size < whbb.heap.size := by omega)) | (go_at_call 17; refine (spec_AddClue a0 _ n0 f0 a10 a11 a12 _ (hO1.keep ?hk).toP hO1.caps).mono ?_; (case hk => repeat (first | exact Below.refl _ _ | exact HZ1.out | refine bl_alloc ?_ _ | refine bl_drewN ?_ _ | refine Below.drew ?_ | refine bl_trans hba ?_ | refine bl_trans hbb ?_ | refine bl_trans hbc ?_)); rintro e whbc ⟨r1, rfl, hR1, hbc⟩; have hzhbc := hbc.size; (try simp [Nat.succ_le_iff] at hzhbc); obtain ⟨hchbc, hfhbc⟩ := bcell hbc; have hkhbc : Below wz1.heap.size wz1 whbc := bl_trans hbc (SB2_3_last (by assumption)); (try have zwhbcwz1 : wz1.heap.size < whbc.heap.size := by omega); (try have zwhbcwhba : whba.heap.size < whbc.heap.size := by omega); (try have zwhbcwhbb : whbb.heap.size < whbc.heap.size := by omega); obtain ⟨ar1, cr1, rfl⟩ := hR1.toP.shape) | fail)
      all_goals
        go_wp2_with fail
        go_meet
        refine ⟨_, .slice ar1 (adN a0 n0 f0 a10 a11 a12) cr1, rfl, rfl, ?_, ?_, ?_, ?_, ?_, ?_, ?_⟩
        · first | (simp [go_sem]; done) | (simp [go_sem, *]; done)
        · first | (simp [go_sem]; done) | (simp [go_sem, *]; done)
        · first | exact (hR1.keep (bl_alloc (Below.refl _ _) _)).lower (by first | omega | (simp; done) | (simp; omega)) | exact ((hR1.low (by first | omega | (simp; done) | (simp; omega)) _).low (by first | omega | (simp; done) | (simp; omega)) _).lower (by first | omega | (simp; done) | (simp; omega))
        · intro g hg e; have h1 := hR1.lt g hg; have h2 := hR1.ge g hg; first | omega | (simp at *; omega)
        · first | omega | (simp; omega)
        · first | omega | (simp; done) | (simp; omega)
        · first | exact bl_alloc hkhbc _ | exact bl_set (bl_set hkhbc (by first | omega | (simp; done) | (simp; omega)) _) (by first | omega | (simp; done) | (simp; omega)) _
    case rest =>
      obtain ⟨p1, u, rfl, rfl, e1_0, e1_1, hO, hne1, hp1, hq1, hB⟩ := hcut
      rename World => wy1
      obtain ⟨av, cv, rfl⟩ := hO.toP.shape
      have v1_0_0 := cell_after hB z1_0 y1_0_0
      have v1_0_1 := cell_after hB z1_0 y1_0_1
      have s1_0 := size_after hB z1_0
      have v1_1_0 := cell_after hB z1_1 y1_1_0
      have v1_1_1 := cell_after hB z1_1 y1_1_1
      have v1_1_2 := cell_after hB z1_1 y1_1_2
      have s1_1 := size_after hB z1_1
      have HBy1 := Lib.hid (bl_trans hB HZ1.out)
      have hzy1 : wz1.heap.size ≤ wy1.heap.size := hB.size
      have HNE1 := Lib.hid hne1
      have sp1 := hq1
      have lt_v0 := Lib.hid hO.lt
      have ge_v0 := Lib.hid hO.ge
      have V := Lib.hid hO
      clear HS1 hS1 hB hO hne1 HZ1 y1_0_0 y1_0_1 y1_1_0 y1_1_1 y1_1_2
      go_wp2_with fail
      refine (toPuzzle_any a0 _ n0 f0 _ (HH.out.keep (by repeat (first | exact HBy1.out | exact Below.refl _ _ | refine bl_alloc ?_ _ | refine bl_drewN ?_ _ | refine bl_trans (by assumption) ?_ | refine bl_set ?_ (by first | omega | (simp; done) | (simp; omega)) _))) hn).mono ?_
      rintro e q2 ⟨u2, rfl, hO2, hbq2⟩
      obtain ⟨hcq2, hfq2⟩ := bcell hbq2
      have hzq2 := bsize hbq2
      (try simp only [World.size_alloc, World.size_setCell] at hzq2)
      have hkq2 : Below wy1.heap.size wy1 q2 := (by repeat (first | exact Below.refl _ _ | refine bl_alloc ?_ _ | refine bl_drewN ?_ _ | refine bl_trans (by assumption) ?_ | refine bl_set ?_ (by first | omega | (simp; done) | (simp; omega)) _))
      have V := Lib.hid (V.out.keep hkq2)
      have hO2 := hO2.lower (C := wy1.heap.size) (by first | omega | (simp; omega))
      obtain ⟨a2, c2, rfl⟩ := hO2.toP.shape
      have ge_u2 := Lib.hid hO2.ge
      have lt_u2 := Lib.hid hO2.lt
      have O2 := Lib.hid hO2
      clear hO2
      have kq2_0_0 : q2.cell? ⟨w.heap.size, 0, none⟩ = some (.int .i64 a0) := cell_after hkq2 s1_0 v1_0_0
      have kq2_0_1 : q2.cell? ⟨w.heap.size, 1, none⟩ = some (.slice a n0 c) := cell_after hkq2 s1_0 v1_0_1
      have sq2_0 : w.heap.size < q2.heap.size := size_after hkq2 s1_0
      have kq2_1_0 : q2.cell? ⟨w.heap.size + 1, 0, none⟩ = some (.int .i64 a10) := cell_after hkq2 s1_1 v1_1_0
      have kq2_1_1 : q2.cell? ⟨w.heap.size + 1, 1, none⟩ = some (.int .i64 a11) := cell_after hkq2 s1_1 v1_1_1
      have kq2_1_2 : q2.cell? ⟨w.heap.size + 1, 2, none⟩ = some (.int .i64 a12) := cell_after hkq2 s1_1 v1_1_2
      have sq2_1 : w.heap.size + 1 < q2.heap.size := size_after hkq2 s1_1
      have kq2_2_0 : q2.cell? ⟨p1, 0, none⟩ = some (.int .i64 (adW a0 n0 f0 a10 a11 a12)) := cell_after hkq2 sp1 e1_0
      have kq2_2_1 : q2.cell? ⟨p1, 1, none⟩ = some (.slice av (adN a0 n0 f0 a10 a11 a12) cv) := cell_after hkq2 sp1 e1_1
      have sq2_2 : p1 < q2.heap.size := size_after hkq2 sp1
      have hBq2 : Below w.heap.size w q2 := (by repeat (first | exact HBy1.out | exact Below.refl _ _ | refine bl_alloc ?_ _ | refine bl_drewN ?_ _ | refine bl_trans (by assumption) ?_ | refine bl_set ?_ (by first | omega | (simp; done) | (simp; omega)) _))
      have HBq2 := Lib.hid hBq2
      clear hBq2 hcq2 hfq2 hbq2 hkq2 v1_0_0 v1_0_1 s1_0 v1_1_0 v1_1_1 v1_1_2 s1_1 e1_0 e1_1 sp1
      go_upto_region 7 with fail
      have y2_0_0 : (q2.alloc (.cells #[.int .i64 a0, .slice a2 n0 c2] 53)).cell? ⟨w.heap.size, 0, none⟩ = some (.int .i64 a0) := (by first | assumption | (simp [go_sem]; done) | (simp [go_sem, *]; done))
      have y2_0_1 : (q2.alloc (.cells #[.int .i64 a0, .slice a2 n0 c2] 53)).cell? ⟨w.heap.size, 1, none⟩ = some (.slice a n0 c) := (by first | assumption | (simp [go_sem]; done) | (simp [go_sem, *]; done))
      have z2_0 : w.heap.size < (q2.alloc (.cells #[.int .i64 a0, .slice a2 n0 c2] 53)).heap.size := by first | assumption | omega | (simp; done) | (simp; omega)
      have y2_1_0 : (q2.alloc (.cells #[.int .i64 a0, .slice a2 n0 c2] 53)).cell? ⟨w.heap.size + 1, 0, none⟩ = some (.int .i64 a10) := (by first | assumption | (simp [go_sem]; done) | (simp [go_sem, *]; done))
      have y2_1_1 : (q2.alloc (.cells #[.int .i64 a0, .slice a2 n0 c2] 53)).cell? ⟨w.heap.size + 1, 1, none⟩ = some (.int .i64 a11) := (by first | assumption | (simp [go_sem]; done) | (simp [go_sem, *]; done))
      have y2_1_2 : (q2.alloc (.cells #[.int .i64 a0, .slice a2 n0 c2] 53)).cell? ⟨w.heap.size + 1, 2, none⟩ = some (.int .i64 a12) := (by first | assumption | (simp [go_sem]; done) | (simp [go_sem, *]; done))
      have z2_1 : w.heap.size + 1 < (q2.alloc (.cells #[.int .i64 a0, .slice a2 n0 c2] 53)).heap.size := by first | assumption | omega | (simp; done) | (simp; omega)
      have y2_2_0 : (q2.alloc (.cells #[.int .i64 a0, .slice a2 n0 c2] 53)).cell? ⟨p1, 0, none⟩ = some (.int .i64 (adW a0 n0 f0 a10 a11 a12)) := (by first | assumption | (simp [go_sem]; done) | (simp [go_sem, *]; done))
      have y2_2_1 : (q2.alloc (.cells #[.int .i64 a0, .slice a2 n0 c2] 53)).cell? ⟨p1, 1, none⟩ = some (.slice av (adN a0 n0 f0 a10 a11 a12) cv) := (by first | assumption | (simp [go_sem]; done) | (simp [go_sem, *]; done))
      have z2_2 : p1 < (q2.alloc (.cells #[.int .i64 a0, .slice a2 n0 c2] 53)).heap.size := by first | assumption | omega | (simp; done) | (simp; omega)
      have y2_3_0 : (q2.alloc (.cells #[.int .i64 a0, .slice a2 n0 c2] 53)).cell? ⟨q2.heap.size, 0, none⟩ = some (.int .i64 a0) := (by first | assumption | (simp [go_sem]; done) | (simp [go_sem, *]; done))
      have y2_3_1 : (q2.alloc (.cells #[.int .i64 a0, .slice a2 n0 c2] 53)).cell? ⟨q2.heap.size, 1, none⟩ = some (.slice a2 n0 c2) := (by first | assumption | (simp [go_sem]; done) | (simp [go_sem, *]; done))
      have z2_3 : q2.heap.size < (q2.alloc (.cells #[.int .i64 a0, .slice a2 n0 c2] 53)).heap.size := by first | assumption | omega | (simp; done) | (simp; omega)
      have V := Lib.hid (V.out.keep (show Below q2.heap.size q2 (q2.alloc (.cells #[.int .i64 a0, .slice a2 n0 c2] 53)) by repeat (first | exact Below.refl _ _ | refine bl_alloc ?_ _ | refine bl_drewN ?_ _ | refine bl_trans (by assumption) ?_ | refine bl_set ?_ (by first | omega | (simp; done) | (simp; omega)) _)))
      have O2 := Lib.hid (O2.out.keep (show Below q2.heap.size q2 (q2.alloc (.cells #[.int .i64 a0, .slice a2 n0 c2] 53)) by repeat (first | exact Below.refl _ _ | refine bl_alloc ?_ _ | refine bl_drewN ?_ _ | refine bl_trans (by assumption) ?_ | refine bl_set ?_ (by first | omega | (simp; done) | (simp; omega)) _)))
      have HZ2 := Lib.hid (show Below w.heap.size w (q2.alloc (.cells #[.int .i64 a0, .slice a2 n0 c2] 53)) by repeat (first | exact HBq2.out | exact Below.refl _ _ | refine bl_alloc ?_ _ | refine bl_drewN ?_ _ | refine bl_trans (by assumption) ?_ | refine bl_set ?_ (by first | omega | (simp; done) | (simp; omega)) _))
      have hsz2 := (show Below q2.heap.size q2 (q2.alloc (.cells #[.int .i64 a0, .slice a2 n0 c2] 53)) by repeat (first | exact Below.refl _ _ | refine bl_alloc ?_ _ | refine bl_drewN ?_ _ | refine bl_trans (by assumption) ?_ | refine bl_set ?_ (by first | omega | (simp; done) | (simp; omega)) _)).size
      clear kq2_0_0 kq2_0_1 sq2_0 kq2_1_0 kq2_1_1 kq2_1_2 sq2_1 kq2_2_0 kq2_2_1 sq2_2
      generalize (q2.alloc (.cells #[.int .i64 a0, .slice a2 n0 c2] 53)) = wz2 at *
      have HS2 := Lib.hid (fun v hb => SB2_3_2_2_after (v := v) y2_0_0 y2_0_1 y2_1_0 y2_1_1 y2_1_2 y2_2_0 y2_2_1 y2_3_0 y2_3_1 z2_0 z2_1 z2_2 z2_3 hb)
      have hS2 := HS2.out wz2 (Below.refl _ _)
      go_cut [9, 10] (fun s6 s7 wx => ∃ p u, s6 = .pointer (some ⟨p, 0, none⟩) ∧ s7 = .bool (aok a0 n0 f0 a10 a11 a12) ∧ wx.cell? ⟨p, 0, none⟩ = some (.int .i64 (adW a0 n0 f0 a10 a11 a12)) ∧ wx.cell? ⟨p, 1, none⟩ = some u ∧ OClu wx wz2.heap.size u (adN a0 n0 f0 a10 a11 a12) (snocF f0 n0 a10 a11 a12) ∧ (∀ g, u.ownBlock = some g → g ≠ p) ∧ wz2.heap.size ≤ p ∧ p < wx.heap.size ∧ Below wz2.heap.size wz2 wx)
      case first =>
        go_region_held3 (fun w' => w'.cell? ⟨w.heap.size, 0, none⟩ = some (.int .i64 a0) ∧ w'.cell? ⟨w.heap.size, 1, none⟩ = some (.slice a n0 c) ∧ w'.cell? ⟨w.heap.size + 1, 0, none⟩ = some (.int .i64 a10) ∧ w'.cell? ⟨w.heap.size + 1, 1, none⟩ = some (.int .i64 a11) ∧ w'.cell? ⟨w.heap.size + 1, 2, none⟩ = some (.int .i64 a12) ∧ w'.cell? ⟨p1, 0, none⟩ = some (.int .i64 (adW a0 n0 f0 a10 a11 a12)) ∧ w'.cell? ⟨p1, 1, none⟩ = some (.slice av (adN a0 n0 f0 a10 a11 a12) cv) ∧ w'.cell? ⟨q2.heap.size, 0, none⟩ = some (.int .i64 a0) ∧ w'.cell? ⟨q2.heap.size, 1, none⟩ = some (.slice a2 n0 c2) ∧ Below wz2.heap.size wz2 w') (first | exact HS2.out _ hkhbb | exact HS2.out _ hkhbc | exact HS2.out _ (bl_alloc hkhbb _) | exact HS2.out _ (bl_alloc hkhbc _) | exact HS2.out _ (bl_set (bl_set hkhbb (by first | omega | (simp; done) | (simp; omega)) _) (by first | omega | (simp; done) | (simp; omega)) _) | exact HS2.out _ (bl_set (bl_set hkhbc (by first | omega | (simp; done) | (simp; omega)) _) (by first | omega | (simp; done) | (simp; omega)) _) | exact HS2.out _ (Below.drew (Below.refl _ _)) | exact HS2.out _ (bl_alloc (Below.drew (Below.refl _ _)) _) | exact HS2.out _ (bl_alloc (Below.refl _ _) _) | exact HS2.out _ (Below.drew (bl_alloc (Below.refl _ _) _)) | assumption) (first | (go_at_call 19; refine (toClue_any _ _ _ _).mono ?_; rintro e whbb ⟨rfl, hbb⟩; have hzhbb := hbb.size; (try simp [Nat.succ_le_iff] at hzhbb); obtain ⟨hchbb, hfhbb⟩ := bcell hbb; have hkhbb : Below wz2.heap.size wz2 whbb := bl_trans hbb (SB2_3_2_2_last (by assumption)); (try have zwhbbwz2 : wz2.heap.size < whbb.heap.size := by omega); (try have zwhbbwhbc : whbc.heap.size < whbb.heap.size := by omega)) | (go_at_call 20; refine (impl_AddClue a0 _ n0 f0 a10 a11 a12 _ (O2.out.keep ?hk).toP O2.out.caps).mono ?_; (case hk => repeat (first | exact Below.refl _ _ | exact HZ2.out | refine bl_alloc ?_ _ | refine bl_drewN ?_ _ | refine Below.drew ?_ | refine bl_trans hbb ?_ | refine bl_trans hbc ?_)); rintro e whbc ⟨r3, rfl, hR3, hbc⟩; have hzhbc := hbc.size; (try simp [Nat.succ_le_iff] at hzhbc); obtain ⟨hchbc, hfhbc⟩ := bcell hbc; have hkhbc : Below wz2.heap.size wz2 whbc := bl_trans hbc (SB2_3_2_2_last (by assumption)); (try have zwhbcwz2 : wz2.heap.size < whbc.heap.size := by omega); (try have zwhbcwhbb : whbb.heap.size < whbc.heap.size := by omega); obtain ⟨ar3, cr3, rfl⟩ := hR3.toP.shape) | fail)
        all_goals
          go_wp2_with fail
          go_meet
          refine ⟨_, .slice ar3 (adN a0 n0 f0 a10 a11 a12) cr3, rfl, rfl, ?_, ?_, ?_, ?_, ?_, ?_, ?_⟩
          · first | (simp [go_sem]; done) | (simp [go_sem, *]; done)
          · first | (simp [go_sem]; done) | (simp [go_sem, *]; done)
          · first | exact (hR3.keep (bl_alloc (Below.refl _ _) _)).lower (by first | omega | (simp; done) | (simp; omega)) | exact ((hR3.low (by first | omega | (simp; done) | (simp; omega)) _).low (by first | omega | (simp; done) | (simp; omega)) _).lower (by first | omega | (simp; done) | (simp; omega))
          · intro g hg e; have h1 := hR3.lt g hg; have h2 := hR3.ge g hg; first | omega | (simp at *; omega)
          · first | omega | (simp; omega)
          · first | omega | (simp; done) | (simp; omega)
          · first | exact bl_alloc hkhbc _ | exact bl_set (bl_set hkhbc (by first | omega | (simp; done) | (simp; omega)) _) (by first | omega | (simp; done) | (simp; omega)) _
      case rest =>
        obtain ⟨p2, u, rfl, rfl, e2_0, e2_1, hO, hne2, hp2, hq2, hB⟩ := hcut
        rename World => wy2
        obtain ⟨ag, cg, rfl⟩ := hO.toP.shape
        have v2_0_0 := cell_after hB z2_0 y2_0_0
        have v2_0_1 := cell_after hB z2_0 y2_0_1
        have s2_0 := size_after hB z2_0
        have v2_1_0 := cell_after hB z2_1 y2_1_0
        have v2_1_1 := cell_after hB z2_1 y2_1_1
        have v2_1_2 := cell_after hB z2_1 y2_1_2
        have s2_1 := size_after hB z2_1
        have v2_2_0 := cell_after hB z2_2 y2_2_0
        have v2_2_1 := cell_after hB z2_2 y2_2_1
        have s2_2 := size_after hB z2_2
        have v2_3_0 := cell_after hB z2_3 y2_3_0
        have v2_3_1 := cell_after hB z2_3 y2_3_1
        have s2_3 := size_after hB z2_3
        have V := Lib.hid (V.out.keep hB)
        have O2 := Lib.hid (O2.out.keep hB)
        have HBy2 := Lib.hid (bl_trans hB HZ2.out)
        have hzy2 : wz2.heap.size ≤ wy2.heap.size := hB.size
        have HNE2 := Lib.hid hne2
        have sp2 := hq2
        have lt_g0 := Lib.hid hO.lt
        have ge_g0 := Lib.hid hO.ge
        have G := Lib.hid hO
        clear HS2 hS2 hB hO hne2 HZ2 y2_0_0 y2_0_1 y2_1_0 y2_1_1 y2_1_2 y2_2_0 y2_2_1 y2_3_0 y2_3_1
        go_wp2_with fail
        refine (eqPuzzle_any (adW a0 n0 f0 a10 a11 a12) _ _ (adN a0 n0 f0 a10 a11 a12) (snocF f0 n0 a10 a11 a12) _ G.out.toP V.out.toP).mono ?_
        rintro e q3 ⟨rfl, hbq3⟩
        obtain ⟨hcq3, hfq3⟩ := bcell hbq3
        have hzq3 := bsize hbq3
        (try simp only [World.size_alloc, World.size_setCell] at hzq3)
        have hkq3 : Below wy2.heap.size wy2 q3 := (by repeat (first | exact Below.refl _ _ | refine bl_alloc ?_ _ | refine bl_drewN ?_ _ | refine bl_trans (by assumption) ?_ | refine bl_set ?_ (by first | omega | (simp; done) | (simp; omega)) _))
        have V := Lib.hid (V.out.keep hkq3)
        have O2 := Lib.hid (O2.out.keep hkq3)
        have G := Lib.hid (G.out.keep hkq3)
        have kq3_0_0 : q3.cell? ⟨w.heap.size, 0, none⟩ = some (.int .i64 a0) := cell_after hkq3 s2_0 v2_0_0
        have kq3_0_1 : q3.cell? ⟨w.heap.size, 1, none⟩ = some (.slice a n0 c) := cell_after hkq3 s2_0 v2_0_1
        have sq3_0 : w.heap.size < q3.heap.size := size_after hkq3 s2_0
        have kq3_1_0 : q3.cell? ⟨w.heap.size + 1, 0, none⟩ = some (.int .i64 a10) := cell_after hkq3 s2_1 v2_1_0
        have kq3_1_1 : q3.cell? ⟨w.heap.size + 1, 1, none⟩ = some (.int .i64 a11) := cell_after hkq3 s2_1 v2_1_1
        have kq3_1_2 : q3.cell? ⟨w.heap.size + 1, 2, none⟩ = some (.int .i64 a12) := cell_after hkq3 s2_1 v2_1_2
        have sq3_1 : w.heap.size + 1 < q3.heap.size := size_after hkq3 s2_1
        have kq3_2_0 : q3.cell? ⟨p1, 0, none⟩ = some (.int .i64 (adW a0 n0 f0 a10 a11 a12)) := cell_after hkq3 s2_2 v2_2_0
        have kq3_2_1 : q3.cell? ⟨p1, 1, none⟩ = some (.slice av (adN a0 n0 f0 a10 a11 a12) cv) := cell_after hkq3 s2_2 v2_2_1
        have sq3_2 : p1 < q3.heap.size := size_after hkq3 s2_2
        have kq3_3_0 : q3.cell? ⟨q2.heap.size, 0, none⟩ = some (.int .i64 a0) := cell_after hkq3 s2_3 v2_3_0
        have kq3_3_1 : q3.cell? ⟨q2.heap.size, 1, none⟩ = some (.slice a2 n0 c2) := cell_after hkq3 s2_3 v2_3_1
        have sq3_3 : q2.heap.size < q3.heap.size := size_after hkq3 s2_3
        have kq3_4_0 : q3.cell? ⟨p2, 0, none⟩ = some (.int .i64 (adW a0 n0 f0 a10 a11 a12)) := cell_after hkq3 sp2 e2_0
        have kq3_4_1 : q3.cell? ⟨p2, 1, none⟩ = some (.slice ag (adN a0 n0 f0 a10 a11 a12) cg) := cell_after hkq3 sp2 e2_1
        have sq3_4 : p2 < q3.heap.size := size_after hkq3 sp2
        have hBq3 : Below w.heap.size w q3 := (by repeat (first | exact HBy2.out | exact Below.refl _ _ | refine bl_alloc ?_ _ | refine bl_drewN ?_ _ | refine bl_trans (by assumption) ?_ | refine bl_set ?_ (by first | omega | (simp; done) | (simp; omega)) _))
        have HBq3 := Lib.hid hBq3
        clear hBq3 hcq3 hfq3 hbq3 hkq3 v2_0_0 v2_0_1 s2_0 v2_1_0 v2_1_1 v2_1_2 s2_1 v2_2_0 v2_2_1 s2_2 v2_3_0 v2_3_1 s2_3 e2_0 e2_1 sp2
        go_wp2_with fail
        have hS1 := (⟨(by first | assumption | (simp [go_sem]; done) | (simp [go_sem, *]; done)), (by first | assumption | (simp [go_sem]; done) | (simp [go_sem, *]; done)), (by first | assumption | (simp [go_sem]; done) | (simp [go_sem, *]; done)), (by first | assumption | (simp [go_sem]; done) | (simp [go_sem, *]; done)), (by first | assumption | (simp [go_sem]; done) | (simp [go_sem, *]; done)), (by first | assumption | (simp [go_sem]; done) | (simp [go_sem, *]; done)), (by first | assumption | (simp [go_sem]; done) | (simp [go_sem, *]; done)), (by first | assumption | (simp [go_sem]; done) | (simp [go_sem, *]; done)), (by first | assumption | (simp [go_sem]; done) | (simp [go_sem, *]; done)), (by first | assumption | (simp [go_sem]; done) | (simp [go_sem, *]; done)), (by first | assumption | (simp [go_sem]; done) | (simp [go_sem, *]; done)), (by first | assumption | omega | (simp; done) | (simp; omega)), (by first | assumption | omega | (simp; done) | (simp; omega)), (by first | assumption | omega | (simp; done) | (simp; omega)), (by first | assumption | omega | (simp; done) | (simp; omega)), (by first | assumption | omega | (simp; done) | (simp; omega)), (by repeat (first | exact HBq3.out | exact Below.refl _ _ | refine bl_alloc ?_ _ | refine bl_drewN ?_ _ | refine bl_trans (by assumption) ?_ | refine bl_set ?_ (by first | omega | (simp; done) | (simp; omega)) _)), (by repeat (first | exact Below.refl _ _ | refine bl_alloc ?_ _ | refine bl_drewN ?_ _ | refine bl_trans (by assumption) ?_ | refine bl_set ?_ (by first | omega | (simp; done) | (simp; omega)) _))⟩ : q3.cell? ⟨w.heap.size, 0, none⟩ = some (.int .i64 a0) ∧ q3.cell? ⟨w.heap.size, 1, none⟩ = some (.slice a n0 c) ∧ q3.cell? ⟨w.heap.size + 1, 0, none⟩ = some (.int .i64 a10) ∧ q3.cell? ⟨w.heap.size + 1, 1, none⟩ = some (.int .i64 a11) ∧ q3.cell? ⟨w.heap.size + 1, 2, none⟩ = some (.int .i64 a12) ∧ q3.cell? ⟨p1, 0, none⟩ = some (.int .i64 (adW a0 n0 f0 a10 a11 a12)) ∧ q3.cell? ⟨p1, 1, none⟩ = some (.slice av (adN a0 n0 f0 a10 a11 a12) cv) ∧ q3.cell? ⟨q2.heap.size, 0, none⟩ = some (.int .i64 a0) ∧ q3.cell? ⟨q2.heap.size, 1, none⟩ = some (.slice a2 n0 c2) ∧ q3.cell? ⟨p2, 0, none⟩ = some (.int .i64 (adW a0 n0 f0 a10 a11 a12)) ∧ q3.cell? ⟨p2, 1, none⟩ = some (.slice ag (adN a0 n0 f0 a10 a11 a12) cg) ∧ w.heap.size < q3.heap.size ∧ w.heap.size + 1 < q3.heap.size ∧ p1 < q3.heap.size ∧ q2.heap.size < q3.heap.size ∧ p2 < q3.heap.size ∧ Below w.heap.size w q3 ∧ Below q3.heap.size q3 q3)
        go_region_held3 (fun w' => w'.cell? ⟨w.heap.size, 0, none⟩ = some (.int .i64 a0) ∧ w'.cell? ⟨w.heap.size, 1, none⟩ = some (.slice a n0 c) ∧ w'.cell? ⟨w.heap.size + 1, 0, none⟩ = some (.int .i64 a10) ∧ w'.cell? ⟨w.heap.size + 1, 1, none⟩ = some (.int .i64 a11) ∧ w'.cell? ⟨w.heap.size + 1, 2, none⟩ = some (.int .i64 a12) ∧ w'.cell? ⟨p1, 0, none⟩ = some (.int .i64 (adW a0 n0 f0 a10 a11 a12)) ∧ w'.cell? ⟨p1, 1, none⟩ = some (.slice av (adN a0 n0 f0 a10 a11 a12) cv) ∧ w'.cell? ⟨q2.heap.size, 0, none⟩ = some (.int .i64 a0) ∧ w'.cell? ⟨q2.heap.size, 1, none⟩ = some (.slice a2 n0 c2) ∧ w'.cell? ⟨p2, 0, none⟩ = some (.int .i64 (adW a0 n0 f0 a10 a11 a12)) ∧ w'.cell? ⟨p2, 1, none⟩ = some (.slice ag (adN a0 n0 f0 a10 a11 a12) cg) ∧ w.heap.size < w'.heap.size ∧ w.heap.size + 1 < w'.heap.size ∧ p1 < w'.heap.size ∧ q2.heap.size < w'.heap.size ∧ p2 < w'.heap.size ∧ Below w.heap.size w w' ∧ Below q3.heap.size q3 w') (first | exact SA2_3_2_2_2_after hbp2 (by assumption) | exact SA2_3_2_2_2_after hbp1 (by assumption) | exact SA2_3_2_2_2_after (below_drewN (Below.refl _ _) _) (by assumption) | exact SA2_3_2_2_2_after (Below.drew (Below.refl _ _)) (by assumption) | assumption) (first | (go_at_call 18; refine (toPuzzle_any a0 _ n0 f0 _ (HH.out.keep (SA2_3_2_2_2_b1 (w := w) (c := q3) (by assumption))) hn).mono ?_; rintro e t1 ⟨u3, rfl, hO3, hbp1⟩) | (go_at_call 21; refine (eqPuzzle_any a0 _ _ n0 f0 _ (O2.out.toP.keep (SA2_3_2_2_2_b2 (w := w) (c := q3) (by assumption))) hO3.toP).mono ?_; rintro e t2 ⟨rfl, hbp2⟩) | fail)
        rename_i hh1
        clear hS1 kq3_0_0 kq3_0_1 sq3_0 kq3_1_0 kq3_1_1 kq3_1_2 sq3_1 kq3_2_0 kq3_2_1 sq3_2 kq3_3_0 kq3_3_1 sq3_3 kq3_4_0 kq3_4_1 sq3_4
        obtain ⟨m1_0_0, m1_0_1, m1_1_0, m1_1_1, m1_1_2, m1_2_0, m1_2_1, m1_3_0, m1_3_1, m1_4_0, m1_4_1, ms1_0, ms1_1, ms1_2, ms1_3, ms1_4, hm1, hk1⟩ := hh1
        have HM1 := Lib.hid hm1
        have V := Lib.hid (V.out.keep hk1)
        have O2 := Lib.hid (O2.out.keep hk1)
        have G := Lib.hid (G.out.keep hk1)
        clear hm1 hk1
        go_wp2_with fail
        refine (markPuzzle_any a0 _ n0 f0 _ _ O2.out hn).mono ?_
        rintro e q4 ⟨rfl, hO_, hg_⟩
        have hzq4 := hg_.size
        have nq4_0_0 := cell_far hg_ ms1_0 (box_ne ge_u2.out (by omega)) m1_0_0
        have nq4_0_1 := cell_far hg_ ms1_0 (box_ne ge_u2.out (by omega)) m1_0_1
        have nsq4_0 := Nat.lt_of_lt_of_le ms1_0 hzq4
        have nq4_1_0 := cell_far hg_ ms1_1 (box_ne ge_u2.out (by omega)) m1_1_0
        have nq4_1_1 := cell_far hg_ ms1_1 (box_ne ge_u2.out (by omega)) m1_1_1
        have nq4_1_2 := cell_far hg_ ms1_1 (box_ne ge_u2.out (by omega)) m1_1_2
        have nsq4_1 := Nat.lt_of_lt_of_le ms1_1 hzq4
        have nq4_2_0 := cell_far hg_ ms1_2 (box_ne ge_u2.out (by omega)) m1_2_0
        have nq4_2_1 := cell_far hg_ ms1_2 (box_ne ge_u2.out (by omega)) m1_2_1
        have nsq4_2 := Nat.lt_of_lt_of_le ms1_2 hzq4
        have nq4_3_0 := cell_far hg_ ms1_3 (box_ne' lt_u2.out (by omega)) m1_3_0
        have nq4_3_1 := cell_far hg_ ms1_3 (box_ne' lt_u2.out (by omega)) m1_3_1
        have nsq4_3 := Nat.lt_of_lt_of_le ms1_3 hzq4
        have nq4_4_0 := cell_far hg_ ms1_4 (box_ne' lt_u2.out (by omega)) m1_4_0
        have nq4_4_1 := cell_far hg_ ms1_4 (box_ne' lt_u2.out (by omega)) m1_4_1
        have nsq4_4 := Nat.lt_of_lt_of_le ms1_4 hzq4
        have V := Lib.hid (V.out.other hg_ (row_ne lt_v0.out ge_u2.out (by omega)))
        have G := Lib.hid (G.out.other hg_ (row_ne' ge_g0.out lt_u2.out (by omega)))
        have O2 := Lib.hid hO_
        have HBq4 := Lib.hid (bel_far HM1.out hg_ ge_u2.out (by omega))
        clear hO_ hg_ m1_0_0 m1_0_1 ms1_0 m1_1_0 m1_1_1 m1_1_2 ms1_1 m1_2_0 m1_2_1 ms1_2 m1_3_0 m1_3_1 ms1_3 m1_4_0 m1_4_1 ms1_4
        have hk0 : ¬ (1 + (n0 : Int) * 3 < 0) := by omega
        go_wp2_with fail
        refine (eqPuzzle_any (adW a0 n0 f0 a10 a11 a12) _ _ (adN a0 n0 f0 a10 a11 a12) (snocF f0 n0 a10 a11 a12) _ G.out.toP V.out.toP).mono ?_
        rintro e q5 ⟨rfl, hbq5⟩
        obtain ⟨hcq5, hfq5⟩ := bcell hbq5
        have hzq5 := bsize hbq5
        (try simp only [World.size_alloc, World.size_setCell] at hzq5)
        have hkq5 : Below q4.heap.size q4 q5 := (by repeat (first | exact Below.refl _ _ | refine bl_alloc ?_ _ | refine bl_drewN ?_ _ | refine bl_trans (by assumption) ?_ | refine bl_set ?_ (by first | omega | (simp; done) | (simp; omega)) _))
        have V := Lib.hid (V.out.keep hkq5)
        have O2 := Lib.hid (O2.out.keep hkq5)
        have G := Lib.hid (G.out.keep hkq5)
        have kq5_0_0 : q5.cell? ⟨w.heap.size, 0, none⟩ = some (.int .i64 a0) := cell_after hkq5 nsq4_0 nq4_0_0
        have kq5_0_1 : q5.cell? ⟨w.heap.size, 1, none⟩ = some (.slice a n0 c) := cell_after hkq5 nsq4_0 nq4_0_1
        have sq5_0 : w.heap.size < q5.heap.size := size_after hkq5 nsq4_0
        have kq5_1_0 : q5.cell? ⟨w.heap.size + 1, 0, none⟩ = some (.int .i64 a10) := cell_after hkq5 nsq4_1 nq4_1_0
        have kq5_1_1 : q5.cell? ⟨w.heap.size + 1, 1, none⟩ = some (.int .i64 a11) := cell_after hkq5 nsq4_1 nq4_1_1
        have kq5_1_2 : q5.cell? ⟨w.heap.size + 1, 2, none⟩ = some (.int .i64 a12) := cell_after hkq5 nsq4_1 nq4_1_2
        have sq5_1 : w.heap.size + 1 < q5.heap.size := size_after hkq5 nsq4_1
        have kq5_2_0 : q5.cell? ⟨p1, 0, none⟩ = some (.int .i64 (adW a0 n0 f0 a10 a11 a12)) := cell_after hkq5 nsq4_2 nq4_2_0
        have kq5_2_1 : q5.cell? ⟨p1, 1, none⟩ = some (.slice av (adN a0 n0 f0 a10 a11 a12) cv) := cell_after hkq5 nsq4_2 nq4_2_1
        have sq5_2 : p1 < q5.heap.size := size_after hkq5 nsq4_2
        have kq5_3_0 : q5.cell? ⟨q2.heap.size, 0, none⟩ = some (.int .i64 a0) := cell_after hkq5 nsq4_3 nq4_3_0
        have kq5_3_1 : q5.cell? ⟨q2.heap.size, 1, none⟩ = some (.slice a2 n0 c2) := cell_after hkq5 nsq4_3 nq4_3_1
        have sq5_3 : q2.heap.size < q5.heap.size := size_after hkq5 nsq4_3
        have kq5_4_0 : q5.cell? ⟨p2, 0, none⟩ = some (.int .i64 (adW a0 n0 f0 a10 a11 a12)) := cell_after hkq5 nsq4_4 nq4_4_0
        have kq5_4_1 : q5.cell? ⟨p2, 1, none⟩ = some (.slice ag (adN a0 n0 f0 a10 a11 a12) cg) := cell_after hkq5 nsq4_4 nq4_4_1
        have sq5_4 : p2 < q5.heap.size := size_after hkq5 nsq4_4
        have hBq5 : Below w.heap.size w q5 := (by repeat (first | exact HBq4.out | exact Below.refl _ _ | refine bl_alloc ?_ _ | refine bl_drewN ?_ _ | refine bl_trans (by assumption) ?_ | refine bl_set ?_ (by first | omega | (simp; done) | (simp; omega)) _))
        have HBq5 := Lib.hid hBq5
        clear hBq5 hcq5 hfq5 hbq5 hkq5 nq4_0_0 nq4_0_1 nsq4_0 nq4_1_0 nq4_1_1 nq4_1_2 nsq4_1 nq4_2_0 nq4_2_1 nsq4_2 nq4_3_0 nq4_3_1 nsq4_3 nq4_4_0 nq4_4_1 nsq4_4
        go_wp2_with fail
        refine (markPuzzle_any (adW a0 n0 f0 a10 a11 a12) _ (adN a0 n0 f0 a10 a11 a12) _ _ _ G.out hNc).mono ?_
        rintro e q6 ⟨rfl, hO_, hg_⟩
        have hzq6 := hg_.size
        have nq6_0_0 := cell_far hg_ sq5_0 (box_ne ge_g0.out (by omega)) kq5_0_0
        have nq6_0_1 := cell_far hg_ sq5_0 (box_ne ge_g0.out (by omega)) kq5_0_1
        have nsq6_0 := Nat.lt_of_lt_of_le sq5_0 hzq6
        have nq6_1_0 := cell_far hg_ sq5_1 (box_ne ge_g0.out (by omega)) kq5_1_0
        have nq6_1_1 := cell_far hg_ sq5_1 (box_ne ge_g0.out (by omega)) kq5_1_1
        have nq6_1_2 := cell_far hg_ sq5_1 (box_ne ge_g0.out (by omega)) kq5_1_2
        have nsq6_1 := Nat.lt_of_lt_of_le sq5_1 hzq6
        have nq6_2_0 := cell_far hg_ sq5_2 (box_ne ge_g0.out (by omega)) kq5_2_0
        have nq6_2_1 := cell_far hg_ sq5_2 (box_ne ge_g0.out (by omega)) kq5_2_1
        have nsq6_2 := Nat.lt_of_lt_of_le sq5_2 hzq6
        have nq6_3_0 := cell_far hg_ sq5_3 (box_ne ge_g0.out (by omega)) kq5_3_0
        have nq6_3_1 := cell_far hg_ sq5_3 (box_ne ge_g0.out (by omega)) kq5_3_1
        have nsq6_3 := Nat.lt_of_lt_of_le sq5_3 hzq6
        have nq6_4_0 := cell_far hg_ sq5_4 (fun e => HNE2.out _ e.symm rfl) kq5_4_0
        have nq6_4_1 := cell_far hg_ sq5_4 (fun e => HNE2.out _ e.symm rfl) kq5_4_1
        have nsq6_4 := Nat.lt_of_lt_of_le sq5_4 hzq6
        have V := Lib.hid (V.out.other hg_ (row_ne lt_v0.out ge_g0.out (by omega)))
        have O2 := Lib.hid (O2.out.other hg_ (row_ne lt_u2.out ge_g0.out (by omega)))
        have G := Lib.hid hO_
        have HBq6 := Lib.hid (bel_far HBq5.out hg_ ge_g0.out (by omega))
        clear hO_ hg_ kq5_0_0 kq5_0_1 sq5_0 kq5_1_0 kq5_1_1 kq5_1_2 sq5_1 kq5_2_0 kq5_2_1 sq5_2 kq5_3_0 kq5_3_1 sq5_3 kq5_4_0 kq5_4_1 sq5_4
        have hk1 : ¬ (1 + ((adN a0 n0 f0 a10 a11 a12 : Nat) : Int) * 3 < 0) := by omega
        go_wp2_with fail
        refine (heldPuzzle_any (adW a0 n0 f0 a10 a11 a12) _ (adN a0 n0 f0 a10 a11 a12) _ G.out.toP hNc).mono ?_
        rintro e q7 ⟨rfl, hbq7⟩
        obtain ⟨hcq7, hfq7⟩ := bcell hbq7
        have hzq7 := bsize hbq7
        (try simp only [World.size_alloc, World.size_setCell] at hzq7)
        have hkq7 : Below q6.heap.size q6 q7 := (by repeat (first | exact Below.refl _ _ | refine bl_alloc ?_ _ | refine bl_drewN ?_ _ | refine bl_trans (by assumption) ?_ | refine bl_set ?_ (by first | omega | (simp; done) | (simp; omega)) _))
        have V := Lib.hid (V.out.keep hkq7)
        have O2 := Lib.hid (O2.out.keep hkq7)
        have G := Lib.hid (G.out.keep hkq7)
        have kq7_0_0 : q7.cell? ⟨w.heap.size, 0, none⟩ = some (.int .i64 a0) := cell_after hkq7 nsq6_0 nq6_0_0
        have kq7_0_1 : q7.cell? ⟨w.heap.size, 1, none⟩ = some (.slice a n0 c) := cell_after hkq7 nsq6_0 nq6_0_1
        have sq7_0 : w.heap.size < q7.heap.size := size_after hkq7 nsq6_0
        have kq7_1_0 : q7.cell? ⟨w.heap.size + 1, 0, none⟩ = some (.int .i64 a10) := cell_after hkq7 nsq6_1 nq6_1_0
        have kq7_1_1 : q7.cell? ⟨w.heap.size + 1, 1, none⟩ = some (.int .i64 a11) := cell_after hkq7 nsq6_1 nq6_1_1
        have kq7_1_2 : q7.cell? ⟨w.heap.size + 1, 2, none⟩ = some (.int .i64 a12) := cell_after hkq7 nsq6_1 nq6_1_2
        have sq7_1 : w.heap.size + 1 < q7.heap.size := size_after hkq7 nsq6_1
        have kq7_2_0 : q7.cell? ⟨p1, 0, none⟩ = some (.int .i64 (adW a0 n0 f0 a10 a11 a12)) := cell_after hkq7 nsq6_2 nq6_2_0
        have kq7_2_1 : q7.cell? ⟨p1, 1, none⟩ = some (.slice av (adN a0 n0 f0 a10 a11 a12) cv) := cell_after hkq7 nsq6_2 nq6_2_1
        have sq7_2 : p1 < q7.heap.size := size_after hkq7 nsq6_2
        have kq7_3_0 : q7.cell? ⟨q2.heap.size, 0, none⟩ = some (.int .i64 a0) := cell_after hkq7 nsq6_3 nq6_3_0
        have kq7_3_1 : q7.cell? ⟨q2.heap.size, 1, none⟩ = some (.slice a2 n0 c2) := cell_after hkq7 nsq6_3 nq6_3_1
        have sq7_3 : q2.heap.size < q7.heap.size := size_after hkq7 nsq6_3
        have kq7_4_0 : q7.cell? ⟨p2, 0, none⟩ = some (.int .i64 (adW a0 n0 f0 a10 a11 a12)) := cell_after hkq7 nsq6_4 nq6_4_0
        have kq7_4_1 : q7.cell? ⟨p2, 1, none⟩ = some (.slice ag (adN a0 n0 f0 a10 a11 a12) cg) := cell_after hkq7 nsq6_4 nq6_4_1
        have sq7_4 : p2 < q7.heap.size := size_after hkq7 nsq6_4
        have hBq7 : Below w.heap.size w q7 := (by repeat (first | exact HBq6.out | exact Below.refl _ _ | refine bl_alloc ?_ _ | refine bl_drewN ?_ _ | refine bl_trans (by assumption) ?_ | refine bl_set ?_ (by first | omega | (simp; done) | (simp; omega)) _))
        have HBq7 := Lib.hid hBq7
        clear hBq7 hcq7 hfq7 hbq7 hkq7 nq6_0_0 nq6_0_1 nsq6_0 nq6_1_0 nq6_1_1 nq6_1_2 nsq6_1 nq6_2_0 nq6_2_1 nsq6_2 nq6_3_0 nq6_3_1 nsq6_3 nq6_4_0 nq6_4_1 nsq6_4
        go_upto_region 24 with fail
        have y3_0_0 : q7.cell? ⟨w.heap.size, 0, none⟩ = some (.int .i64 a0) := (by first | assumption | (simp [go_sem]; done) | (simp [go_sem, *]; done))
        have y3_0_1 : q7.cell? ⟨w.heap.size, 1, none⟩ = some (.slice a n0 c) := (by first | assumption | (simp [go_sem]; done) | (simp [go_sem, *]; done))
        have z3_0 : w.heap.size < q7.heap.size := by first | assumption | omega | (simp; done) | (simp; omega)
        have y3_1_0 : q7.cell? ⟨w.heap.size + 1, 0, none⟩ = some (.int .i64 a10) := (by first | assumption | (simp [go_sem]; done) | (simp [go_sem, *]; done))
        have y3_1_1 : q7.cell? ⟨w.heap.size + 1, 1, none⟩ = some (.int .i64 a11) := (by first | assumption | (simp [go_sem]; done) | (simp [go_sem, *]; done))
        have y3_1_2 : q7.cell? ⟨w.heap.size + 1, 2, none⟩ = some (.int .i64 a12) := (by first | assumption | (simp [go_sem]; done) | (simp [go_sem, *]; done))
        have z3_1 : w.heap.size + 1 < q7.heap.size := by first | assumption | omega | (simp; done) | (simp; omega)
        have y3_2_0 : q7.cell? ⟨p1, 0, none⟩ = some (.int .i64 (adW a0 n0 f0 a10 a11 a12)) := (by first | assumption | (simp [go_sem]; done) | (simp [go_sem, *]; done))
        have y3_2_1 : q7.cell? ⟨p1, 1, none⟩ = some (.slice av (adN a0 n0 f0 a10 a11 a12) cv) := (by first | assumption | (simp [go_sem]; done) | (simp [go_sem, *]; done))
        have z3_2 : p1 < q7.heap.size := by first | assumption | omega | (simp; done) | (simp; omega)
        have y3_3_0 : q7.cell? ⟨q2.heap.size, 0, none⟩ = some (.int .i64 a0) := (by first | assumption | (simp [go_sem]; done) | (simp [go_sem, *]; done))
        have y3_3_1 : q7.cell? ⟨q2.heap.size, 1, none⟩ = some (.slice a2 n0 c2) := (by first | assumption | (simp [go_sem]; done) | (simp [go_sem, *]; done))
        have z3_3 : q2.heap.size < q7.heap.size := by first | assumption | omega | (simp; done) | (simp; omega)
        have y3_4_0 : q7.cell? ⟨p2, 0, none⟩ = some (.int .i64 (adW a0 n0 f0 a10 a11 a12)) := (by first | assumption | (simp [go_sem]; done) | (simp [go_sem, *]; done))
        have y3_4_1 : q7.cell? ⟨p2, 1, none⟩ = some (.slice ag (adN a0 n0 f0 a10 a11 a12) cg) := (by first | assumption | (simp [go_sem]; done) | (simp [go_sem, *]; done))
        have z3_4 : p2 < q7.heap.size := by first | assumption | omega | (simp; done) | (simp; omega)
        have V := Lib.hid (V.out.keep (show Below q7.heap.size q7 q7 by repeat (first | exact Below.refl _ _ | refine bl_alloc ?_ _ | refine bl_drewN ?_ _ | refine bl_trans (by assumption) ?_ | refine bl_set ?_ (by first | omega | (simp; done) | (simp; omega)) _)))
        have G := Lib.hid (G.out.keep (show Below q7.heap.size q7 q7 by repeat (first | exact Below.refl _ _ | refine bl_alloc ?_ _ | refine bl_drewN ?_ _ | refine bl_trans (by assumption) ?_ | refine bl_set ?_ (by first | omega | (simp; done) | (simp; omega)) _)))
        have HZ3 := Lib.hid (show Below w.heap.size w q7 by repeat (first | exact HBq7.out | exact Below.refl _ _ | refine bl_alloc ?_ _ | refine bl_drewN ?_ _ | refine bl_trans (by assumption) ?_ | refine bl_set ?_ (by first | omega | (simp; done) | (simp; omega)) _))
        have hsz3 := (show Below q7.heap.size q7 q7 by repeat (first | exact Below.refl _ _ | refine bl_alloc ?_ _ | refine bl_drewN ?_ _ | refine bl_trans (by assumption) ?_ | refine bl_set ?_ (by first | omega | (simp; done) | (simp; omega)) _)).size
        clear kq7_0_0 kq7_0_1 sq7_0 kq7_1_0 kq7_1_1 kq7_1_2 sq7_1 kq7_2_0 kq7_2_1 sq7_2 kq7_3_0 kq7_3_1 sq7_3 kq7_4_0 kq7_4_1 sq7_4
        generalize q7 = wz3 at *
        have HS3 := Lib.hid (fun v hb => SB2_3_2_2_2_after (v := v) y3_0_0 y3_0_1 y3_1_0 y3_1_1 y3_1_2 y3_2_0 y3_2_1 y3_3_0 y3_3_1 y3_4_0 y3_4_1 z3_0 z3_1 z3_2 z3_3 z3_4 hb)
        have hS3 := HS3.out wz3 (Below.refl _ _)
        go_cut [14, 15] (fun s6 s7 wx => ∃ p u, s6 = .pointer (some ⟨p, 0, none⟩) ∧ s7 = .bool (aok a0 n0 f0 a10 a11 a12) ∧ wx.cell? ⟨p, 0, none⟩ = some (.int .i64 (adW a0 n0 f0 a10 a11 a12)) ∧ wx.cell? ⟨p, 1, none⟩ = some u ∧ OClu wx wz3.heap.size u (adN a0 n0 f0 a10 a11 a12) (snocF f0 n0 a10 a11 a12) ∧ (∀ g, u.ownBlock = some g → g ≠ p) ∧ wz3.heap.size ≤ p ∧ p < wx.heap.size ∧ Below wz3.heap.size wz3 wx)
        case first =>
          go_region_held3 (fun w' => w'.cell? ⟨w.heap.size, 0, none⟩ = some (.int .i64 a0) ∧ w'.cell? ⟨w.heap.size, 1, none⟩ = some (.slice a n0 c) ∧ w'.cell? ⟨w.heap.size + 1, 0, none⟩ = some (.int .i64 a10) ∧ w'.cell? ⟨w.heap.size + 1, 1, none⟩ = some (.int .i64 a11) ∧ w'.cell? ⟨w.heap.size + 1, 2, none⟩ = some (.int .i64 a12) ∧ w'.cell? ⟨p1, 0, none⟩ = some (.int .i64 (adW a0 n0 f0 a10 a11 a12)) ∧ w'.cell? ⟨p1, 1, none⟩ = some (.slice av (adN a0 n0 f0 a10 a11 a12) cv) ∧ w'.cell? ⟨q2.heap.size, 0, none⟩ = some (.int .i64 a0) ∧ w'.cell? ⟨q2.heap.size, 1, none⟩ = some (.slice a2 n0 c2) ∧ w'.cell? ⟨p2, 0, none⟩ = some (.int .i64 (adW a0 n0 f0 a10 a11 a12)) ∧ w'.cell? ⟨p2, 1, none⟩ = some (.slice ag (adN a0 n0 f0 a10 a11 a12) cg) ∧ Below wz3.heap.size wz3 w') (first | exact HS3.out _ hkhba | exact HS3.out _ hkhbb | exact HS3.out _ hkhbc | exact HS3.out _ (bl_alloc hkhba _) | exact HS3.out _ (bl_alloc hkhbb _) | exact HS3.out _ (bl_alloc hkhbc _) | exact HS3.out _ (bl_set (bl_set hkhba (by first | omega | (simp; done) | (simp; omega)) _) (by first | omega | (simp; done) | (simp; omega)) _) | exact HS3.out _ (bl_set (bl_set hkhbb (by first | omega | (simp; done) | (simp; omega)) _) (by first | omega | (simp; done) | (simp; omega)) _) | exact HS3.out _ (bl_set (bl_set hkhbc (by first | omega | (simp; done) | (simp; omega)) _) (by first | omega | (simp; done) | (simp; omega)) _) | exact HS3.out _ (Below.drew (Below.refl _ _)) | exact HS3.out _ (bl_alloc (Below.drew (Below.refl _ _)) _) | exact HS3.out _ (bl_alloc (Below.refl _ _) _) | exact HS3.out _ (Below.drew (bl_alloc (Below.refl _ _) _)) | assumption) (first | (go_at_call 18; refine (toPuzzle_any a0 _ n0 f0 _ (HH.out.keep ?hk) hn).mono ?_; (case hk => repeat (first | exact Below.refl _ _ | exact HZ3.out | refine bl_alloc ?_ _ | refine bl_drewN ?_ _ | refine Below.drew ?_ | refine bl_trans hba ?_ | refine bl_trans hbb ?_ | refine bl_trans hbc ?_)); rintro e whba ⟨u4, rfl, hO4, hba⟩; have hzhba := hba.size; (try simp [Nat.succ_le_iff] at hzhba); obtain ⟨hchba, hfhba⟩ := bcell hba; have hkhba : Below wz3.heap.size wz3 whba := bl_trans hba (SB2_3_2_2_2_last (by assumption)); (try have zwhbawz3 : wz3.heap.size < whba.heap.size := by omega); (try have zwhbawhbb : whbb.heap.size < whba.heap.size := by omega); (try have zwhbawhbc : whbc.heap.size < whba.heap.size := by omega); obtain ⟨a4, c4, rfl⟩ := hO4.toP.shape) | (go_at_call 19; refine (toClue_any _ _ _ _).mono ?_; rintro e whbb ⟨rfl, hbb⟩; have hzhbb := hbb.size; (try simp [Nat.succ_le_iff] at hzhbb); obtain ⟨hchbb, hfhbb⟩ := bcell hbb; have hkhbb : Below wz3.heap.size wz3 whbb := bl_trans hbb (SB2_3_2_2_2_last (by assumption)); (try have zwhbbwz3 : wz3.heap.size < whbb.heap.size := by omega); (try have zwhbbwhba : whba.heap.size < whbb.heap.size := by omega); (try have zwhbbwhbc : whbc.heap.size < whbb.heap.size := by omega)) | (go_at_call 20; refine (impl_AddClue a0 _ n0 f0 a10 a11 a12 _ (hO4.keep ?hk).toP hO4.caps).mono ?_; (case hk => repeat (first | exact Below.refl _ _ | exact HZ3.out | refine bl_alloc ?_ _ | refine bl_drewN ?_ _ | refine Below.drew ?_ | refine bl_trans hba ?_ | refine bl_trans hbb ?_ | refine bl_trans hbc ?_)); rintro e whbc ⟨r5, rfl, hR5, hbc⟩; have hzhbc := hbc.size; (try simp [Nat.succ_le_iff] at hzhbc); obtain ⟨hchbc, hfhbc⟩ := bcell hbc; have hkhbc : Below wz3.heap.size wz3 whbc := bl_trans hbc (SB2_3_2_2_2_last (by assumption)); (try have zwhbcwz3 : wz3.heap.size < whbc.heap.size := by omega); (try have zwhbcwhba : whba.heap.size < whbc.heap.size := by omega); (try have zwhbcwhbb : whbb.heap.size < whbc.heap.size := by omega); obtain ⟨ar5, cr5, rfl⟩ := hR5.toP.shape) | fail)
          all_goals
            go_wp2_with fail
            go_meet
            refine ⟨_, .slice ar5 (adN a0 n0 f0 a10 a11 a12) cr5, rfl, rfl, ?_, ?_, ?_, ?_, ?_, ?_, ?_⟩
            · first | (simp [go_sem]; done) | (simp [go_sem, *]; done)
            · first | (simp [go_sem]; done) | (simp [go_sem, *]; done)
            · first | exact (hR5.keep (bl_alloc (Below.refl _ _) _)).lower (by first | omega | (simp; done) | (simp; omega)) | exact ((hR5.low (by first | omega | (simp; done) | (simp; omega)) _).low (by first | omega | (simp; done) | (simp; omega)) _).lower (by first | omega | (simp; done) | (simp; omega))
            · intro g hg e; have h1 := hR5.lt g hg; have h2 := hR5.ge g hg; first | omega | (simp at *; omega)
            · first | omega | (simp; omega)
            · first | omega | (simp; done) | (simp; omega)
            · first | exact bl_alloc hkhbc _ | exact bl_set (bl_set hkhbc (by first | omega | (simp; done) | (simp; omega)) _) (by first | omega | (simp; done) | (simp; omega)) _
        case rest =>
          obtain ⟨p3, u, rfl, rfl, e3_0, e3_1, hO, hne3, hp3, hq3, hB⟩ := hcut
          rename World => wy3
          obtain ⟨ah, ch, rfl⟩ := hO.toP.shape
          have v3_0_0 := cell_after hB z3_0 y3_0_0
          have v3_0_1 := cell_after hB z3_0 y3_0_1
          have s3_0 := size_after hB z3_0
          have v3_1_0 := cell_after hB z3_1 y3_1_0
          have v3_1_1 := cell_after hB z3_1 y3_1_1
          have v3_1_2 := cell_after hB z3_1 y3_1_2
          have s3_1 := size_after hB z3_1
          have v3_2_0 := cell_after hB z3_2 y3_2_0
          have v3_2_1 := cell_after hB z3_2 y3_2_1
          have s3_2 := size_after hB z3_2
          have v3_3_0 := cell_after hB z3_3 y3_3_0
          have v3_3_1 := cell_after hB z3_3 y3_3_1
          have s3_3 := size_after hB z3_3
          have v3_4_0 := cell_after hB z3_4 y3_4_0
          have v3_4_1 := cell_after hB z3_4 y3_4_1
          have s3_4 := size_after hB z3_4
          have V := Lib.hid (V.out.keep hB)
          have G := Lib.hid (G.out.keep hB)
          have HBy3 := Lib.hid (bl_trans hB HZ3.out)
          have hzy3 : wz3.heap.size ≤ wy3.heap.size := hB.size
          have HNE3 := Lib.hid hne3
          have sp3 := hq3
          have lt_h0 := Lib.hid hO.lt
          have ge_h0 := Lib.hid hO.ge
          have HR := Lib.hid hO
          clear HS3 hS3 hB hO hne3 HZ3 y3_0_0 y3_0_1 y3_1_0 y3_1_1 y3_1_2 y3_2_0 y3_2_1 y3_3_0 y3_3_1 y3_4_0 y3_4_1
          go_wp2_with fail
          refine (eqPuzzle_any (adW a0 n0 f0 a10 a11 a12) _ _ (adN a0 n0 f0 a10 a11 a12) (snocF f0 n0 a10 a11 a12) _ HR.out.toP V.out.toP).mono ?_
          rintro e q8 ⟨rfl, hbq8⟩
          obtain ⟨hcq8, hfq8⟩ := bcell hbq8
          have hzq8 := bsize hbq8
          (try simp only [World.size_alloc, World.size_setCell] at hzq8)
          have hkq8 : Below wy3.heap.size wy3 q8 := (by repeat (first | exact Below.refl _ _ | refine bl_alloc ?_ _ | refine bl_drewN ?_ _ | refine bl_trans (by assumption) ?_ | refine bl_set ?_ (by first | omega | (simp; done) | (simp; omega)) _))
          have V := Lib.hid (V.out.keep hkq8)
          have G := Lib.hid (G.out.keep hkq8)
          have HR := Lib.hid (HR.out.keep hkq8)
          have kq8_0_0 : q8.cell? ⟨w.heap.size, 0, none⟩ = some (.int .i64 a0) := cell_after hkq8 s3_0 v3_0_0
          have kq8_0_1 : q8.cell? ⟨w.heap.size, 1, none⟩ = some (.slice a n0 c) := cell_after hkq8 s3_0 v3_0_1
          have sq8_0 : w.heap.size < q8.heap.size := size_after hkq8 s3_0
          have kq8_1_0 : q8.cell? ⟨w.heap.size + 1, 0, none⟩ = some (.int .i64 a10) := cell_after hkq8 s3_1 v3_1_0
          have kq8_1_1 : q8.cell? ⟨w.heap.size + 1, 1, none⟩ = some (.int .i64 a11) := cell_after hkq8 s3_1 v3_1_1
          have kq8_1_2 : q8.cell? ⟨w.heap.size + 1, 2, none⟩ = some (.int .i64 a12) := cell_after hkq8 s3_1 v3_1_2
          have sq8_1 : w.heap.size + 1 < q8.heap.size := size_after hkq8 s3_1
          have kq8_2_0 : q8.cell? ⟨p1, 0, none⟩ = some (.int .i64 (adW a0 n0 f0 a10 a11 a12)) := cell_after hkq8 s3_2 v3_2_0
          have kq8_2_1 : q8.cell? ⟨p1, 1, none⟩ = some (.slice av (adN a0 n0 f0 a10 a11 a12) cv) := cell_after hkq8 s3_2 v3_2_1
          have sq8_2 : p1 < q8.heap.size := size_after hkq8 s3_2
          have kq8_3_0 : q8.cell? ⟨q2.heap.size, 0, none⟩ = some (.int .i64 a0) := cell_after hkq8 s3_3 v3_3_0
          have kq8_3_1 : q8.cell? ⟨q2.heap.size, 1, none⟩ = some (.slice a2 n0 c2) := cell_after hkq8 s3_3 v3_3_1
          have sq8_3 : q2.heap.size < q8.heap.size := size_after hkq8 s3_3
          have kq8_4_0 : q8.cell? ⟨p2, 0, none⟩ = some (.int .i64 (adW a0 n0 f0 a10 a11 a12)) := cell_after hkq8 s3_4 v3_4_0
          have kq8_4_1 : q8.cell? ⟨p2, 1, none⟩ = some (.slice ag (adN a0 n0 f0 a10 a11 a12) cg) := cell_after hkq8 s3_4 v3_4_1
          have sq8_4 : p2 < q8.heap.size := size_after hkq8 s3_4
          have kq8_5_0 : q8.cell? ⟨p3, 0, none⟩ = some (.int .i64 (adW a0 n0 f0 a10 a11 a12)) := cell_after hkq8 sp3 e3_0
          have kq8_5_1 : q8.cell? ⟨p3, 1, none⟩ = some (.slice ah (adN a0 n0 f0 a10 a11 a12) ch) := cell_after hkq8 sp3 e3_1
          have sq8_5 : p3 < q8.heap.size := size_after hkq8 sp3
          have hBq8 : Below w.heap.size w q8 := (by repeat (first | exact HBy3.out | exact Below.refl _ _ | refine bl_alloc ?_ _ | refine bl_drewN ?_ _ | refine bl_trans (by assumption) ?_ | refine bl_set ?_ (by first | omega | (simp; done) | (simp; omega)) _))
          have HBq8 := Lib.hid hBq8
          clear hBq8 hcq8 hfq8 hbq8 hkq8 v3_0_0 v3_0_1 s3_0 v3_1_0 v3_1_1 v3_1_2 s3_1 v3_2_0 v3_2_1 s3_2 v3_3_0 v3_3_1 s3_3 v3_4_0 v3_4_1 s3_4 e3_0 e3_1 sp3
          go_wp2_with fail
          refine (heldPuzzle_any (adW a0 n0 f0 a10 a11 a12) _ (adN a0 n0 f0 a10 a11 a12) _ G.out.toP hNc).mono ?_
          rintro e q9 ⟨rfl, hbq9⟩
          obtain ⟨hcq9, hfq9⟩ := bcell hbq9
          have hzq9 := bsize hbq9
          (try simp only [World.size_alloc, World.size_setCell] at hzq9)
          have hkq9 : Below q8.heap.size q8 q9 := (by repeat (first | exact Below.refl _ _ | refine bl_alloc ?_ _ | refine bl_drewN ?_ _ | refine bl_trans (by assumption) ?_ | refine bl_set ?_ (by first | omega | (simp; done) | (simp; omega)) _))
          have V := Lib.hid (V.out.keep hkq9)
          have G := Lib.hid (G.out.keep hkq9)
          have HR := Lib.hid (HR.out.keep hkq9)
          have kq9_0_0 : q9.cell? ⟨w.heap.size, 0, none⟩ = some (.int .i64 a0) := cell_after hkq9 sq8_0 kq8_0_0
          have kq9_0_1 : q9.cell? ⟨w.heap.size, 1, none⟩ = some (.slice a n0 c) := cell_after hkq9 sq8_0 kq8_0_1
          have sq9_0 : w.heap.size < q9.heap.size := size_after hkq9 sq8_0
          have kq9_1_0 : q9.cell? ⟨w.heap.size + 1, 0, none⟩ = some (.int .i64 a10) := cell_after hkq9 sq8_1 kq8_1_0
          have kq9_1_1 : q9.cell? ⟨w.heap.size + 1, 1, none⟩ = some (.int .i64 a11) := cell_after hkq9 sq8_1 kq8_1_1
          have kq9_1_2 : q9.cell? ⟨w.heap.size + 1, 2, none⟩ = some (.int .i64 a12) := cell_after hkq9 sq8_1 kq8_1_2
          have sq9_1 : w.heap.size + 1 < q9.heap.size := size_after hkq9 sq8_1
          have kq9_2_0 : q9.cell? ⟨p1, 0, none⟩ = some (.int .i64 (adW a0 n0 f0 a10 a11 a12)) := cell_after hkq9 sq8_2 kq8_2_0
          have kq9_2_1 : q9.cell? ⟨p1, 1, none⟩ = some (.slice av (adN a0 n0 f0 a10 a11 a12) cv) := cell_after hkq9 sq8_2 kq8_2_1
          have sq9_2 : p1 < q9.heap.size := size_after hkq9 sq8_2
          have kq9_3_0 : q9.cell? ⟨q2.heap.size, 0, none⟩ = some (.int .i64 a0) := cell_after hkq9 sq8_3 kq8_3_0
          have kq9_3_1 : q9.cell? ⟨q2.heap.size, 1, none⟩ = some (.slice a2 n0 c2) := cell_after hkq9 sq8_3 kq8_3_1
          have sq9_3 : q2.heap.size < q9.heap.size := size_after hkq9 sq8_3
          have kq9_4_0 : q9.cell? ⟨p2, 0, none⟩ = some (.int .i64 (adW a0 n0 f0 a10 a11 a12)) := cell_after hkq9 sq8_4 kq8_4_0
          have kq9_4_1 : q9.cell? ⟨p2, 1, none⟩ = some (.slice ag (adN a0 n0 f0 a10 a11 a12) cg) := cell_after hkq9 sq8_4 kq8_4_1
          have sq9_4 : p2 < q9.heap.size := size_after hkq9 sq8_4
          have kq9_5_0 : q9.cell? ⟨p3, 0, none⟩ = some (.int .i64 (adW a0 n0 f0 a10 a11 a12)) := cell_after hkq9 sq8_5 kq8_5_0
          have kq9_5_1 : q9.cell? ⟨p3, 1, none⟩ = some (.slice ah (adN a0 n0 f0 a10 a11 a12) ch) := cell_after hkq9 sq8_5 kq8_5_1
          have sq9_5 : p3 < q9.heap.size := size_after hkq9 sq8_5
          have hBq9 : Below w.heap.size w q9 := (by repeat (first | exact HBq8.out | exact Below.refl _ _ | refine bl_alloc ?_ _ | refine bl_drewN ?_ _ | refine bl_trans (by assumption) ?_ | refine bl_set ?_ (by first | omega | (simp; done) | (simp; omega)) _))
          have HBq9 := Lib.hid hBq9
          clear hBq9 hcq9 hfq9 hbq9 hkq9 kq8_0_0 kq8_0_1 sq8_0 kq8_1_0 kq8_1_1 kq8_1_2 sq8_1 kq8_2_0 kq8_2_1 sq8_2 kq8_3_0 kq8_3_1 sq8_3 kq8_4_0 kq8_4_1 sq8_4 kq8_5_0 kq8_5_1 sq8_5
          go_wp2
          go_ret
          exact ⟨rfl, (by repeat (first | exact HBq9.out | exact Below.refl _ _ | refine bl_alloc ?_ _ | refine bl_drewN ?_ _ | refine bl_trans (by assumption) ?_ | refine bl_set ?_ (by first | omega | (simp; done) | (simp; omega)) _))⟩
  · go_enter Try.func5, Try.ntmps5
    go_wp2_with fail
    refine (szPuzzle_any a0 _ n0 f0 _ (HH.out.keep (by repeat (first | exact Below.refl _ _ | refine bl_alloc ?_ _ | refine bl_drewN ?_ _ | refine bl_trans (by assumption) ?_ | refine bl_set ?_ (by first | omega | (simp; done) | (simp; omega)) _)))).mono ?_
    rintro e w1 ⟨rfl, hb1⟩
    rw [if_neg hn]
    go_wp2
    go_ret
    exact ⟨rfl, (by repeat (first | exact Below.refl _ _ | refine bl_alloc ?_ _ | refine bl_drewN ?_ _ | refine bl_trans hb1 ?_ | refine bl_set ?_ (by first | omega | (simp; done) | (simp; omega)) _))⟩

set_option maxRecDepth 100000 in
theorem lifted (os : Os) (started : os.Started) (H : Type) (enc : TypeId × Value → H) :
    ReturnsInHanded {} Try.checked os 5 .any (Rows.fnExactAddClueSpec.pre6 enc Try.prog Try.f5 Rows.fnExactAddClueRow.domain false) (Rows.fnExactAddClueSpec.post enc Try.prog Try.f5 false true false false) := by
  refine returnsInHanded_of_change (C := Try.checked) own started (by kernel_rfl) Try.func5
    (ChangeSpec.witness6 (enc := enc) (C := Try.checked) false ⟨#[], #[.agg #[.int .i64 0, .slice none 0 0], .agg #[.int .i64 0, .int .i64 0, .int .i64 0]], []⟩ 8 (by kernel_rfl) (by kernel_rfl) (by kernel_rfl) (by kernel_rfl)) ?_
  intro W base args ds gs before hval0 hW hcnd _
  have hval : ∀ (j : Nat) t v, Try.f5.params[j]? = some t → args[j]? = some v → Value.okWide Try.prog W .any base t v := hval0
  have hW' := hW
  obtain ⟨p, q, hA0, hV, rfl, hfz, hnd⟩ := hW
  have hA : DataW.TrodAll enc Try.prog W 0 (fun _ => true) true Try.f5.params.toList args.toList ds p := hA0
  rw [Try.params5] at hA hval
  obtain ⟨v0, vs0, d0, ds0, p0, q0, hargs, rfl, rfl, h0, r0⟩ := trodAll_cons hA
  obtain ⟨v1, vs1, d1, ds1, p1, q1, rfl, rfl, rfl, h1, r1⟩ := trodAll_cons r0
  obtain ⟨rfl, rfl, rfl⟩ := trodAll_nil r1
  obtain rfl : args = #[v0, v1] := by cases args; simp_all
  obtain ⟨rfl, rfl⟩ := trodVars_none hV
  have k0 := h0
  have lt0 : ∀ x ∈ p0, x.block < W.heap.size := by obtain ⟨m, hm⟩ := k0; exact DataW.trod_lt m _ _ _ hm
  have k1 := h1
  have lt1 : ∀ x ∈ p1, x.block < W.heap.size := by obtain ⟨m, hm⟩ := k1; exact DataW.trod_lt m _ _ _ hm
  obtain ⟨c0, v0c, y00, y01, m0, rfl, rfl, rfl, hy00, hy01⟩ := open_agg2 Try.underlying47 (by kernel_rfl) (by kernel_rfl) (hval 0 47 v0 rfl rfl) h0
  obtain ⟨a0, e00, rfl, w0⟩ := DataW.trod_int Try.underlying3 hy00
  simp at e00
  subst e00
  obtain ⟨n0, f0, hP0⟩ := open_clues hy01
  obtain ⟨c10, c11, c12, y10, y11, y12, m1, rfl, rfl, rfl, hy10, hy11, hy12⟩ := open_agg3 Try.underlying49 (by kernel_rfl) (by kernel_rfl) (hval 1 49 v1 rfl rfl) h1
  obtain ⟨a10, e10, rfl, w10⟩ := DataW.trod_int Try.underlying3 hy10
  obtain ⟨a11, e11, rfl, w11⟩ := DataW.trod_int Try.underlying3 hy11
  obtain ⟨a12, e12, rfl, w12⟩ := DataW.trod_int Try.underlying3 hy12
  simp at e10 e11 e12
  subst e10 e11 e12
  clear hA0 hval0
  refine (walk a0 v0c n0 f0 a10 a11 a12 w0 w10 w11 w12 W hP0).mono fun e W' ⟨he, bel⟩ => ?_
  subst he
  exact ⟨_, rfl, _, _, _, [], _, [], hW', trodAll_mk1 (shut_bool Try.underlying4 _), (trodAll_cons_mk (Below.trod laidOut (by kernel_rfl) (of_decide_eq_true (by kernel_rfl)) k0 bel lt0) (trodAll_cons_mk (Below.trod laidOut (by kernel_rfl) (of_decide_eq_true (by kernel_rfl)) k1 bel lt1) trodAll_mk0)), rfl, bel.frame _, fun h => by cases h⟩

theorem over : Rows.fnExactAddClueRow.holds Try.pinned (OpenSpec.ofChange Rows.fnExactAddClueSpec) :=
  OpenClaim.holds_of_wide 5 Try.f5 rfl rfl rfl rfl rfl rfl rfl ⟨rfl, rfl, rfl, rfl, rfl⟩ rfl rfl rfl rfl rfl (by kernel_rfl) Try.func5 (by simp only [joinedFacts, make, lifts, may, Bool.and_true]; kernel_rfl)
    (of_decide_eq_true (by kernel_rfl)) (by unfold Func.isWrapper; first | (rw [if_pos (by decide +kernel)]; kernel_rfl) | (rw [if_neg (by decide +kernel)]; exact ⟨rfl, rfl⟩))
    (fun os started H enc _ => lifted os started H enc)

theorem proved : Rows.FnExactAddClueSaid := over
#print axioms proved
end Go.Proofs.Ytahcfjpplkemdaa.fnExactAddClue

/- The law 'FnExactLeftByClues' holds for every input. -/
import Derived.Test.YtgghceckpdfogaaPZL
import Derived.Test.YtgghceckpdfogaaPZA
import Derived.Test.YtgghceckpdfogaaO
import Derived.ProofKit
import Derived.OpenShut
import Derived.ShutString
import Derived.ChangeOld
import Derived.Lib.SmallJoins
namespace Go.Proofs.Ytgghceckpdfogaa.fnExactLeftByClues
open Go.ChangeShapes Go.WideShapes Go.ChangeAt Go.RowKit Go.Joins
open Go.ChangeMaps (open_string shut_string)
set_option linter.unusedVariables false
set_option linter.unusedSimpArgs false
theorem own : ownKnob Try.prog.godebug = none := by kernel_rfl
theorem laidOut : laidOutB Try.prog = true := by kernel_rfl
theorem SA2_2_after {w c u v : World} {A0 A1 : Nat} {x00 x01 x10 x11 : Value} (hb : Below u.heap.size u v) (h : u.cell? ⟨A0, 0, none⟩ = some x00 ∧ u.cell? ⟨A0, 1, none⟩ = some x01 ∧ u.cell? ⟨A1, 0, none⟩ = some x10 ∧ u.cell? ⟨A1, 1, none⟩ = some x11 ∧ A0 < u.heap.size ∧ A1 < u.heap.size ∧ Below w.heap.size w u ∧ Below c.heap.size c u) : v.cell? ⟨A0, 0, none⟩ = some x00 ∧ v.cell? ⟨A0, 1, none⟩ = some x01 ∧ v.cell? ⟨A1, 0, none⟩ = some x10 ∧ v.cell? ⟨A1, 1, none⟩ = some x11 ∧ A0 < v.heap.size ∧ A1 < v.heap.size ∧ Below w.heap.size w v ∧ Below c.heap.size c v := by
  obtain ⟨h0, h1, h2, h3, h4, h5, h6, h7⟩ := h
  exact ⟨by rw [(bcell hb).1 _ _ h4]; exact h0, by rw [(bcell hb).1 _ _ h4]; exact h1, by rw [(bcell hb).1 _ _ h5]; exact h2, by rw [(bcell hb).1 _ _ h5]; exact h3, Nat.lt_of_lt_of_le h4 hb.size, Nat.lt_of_lt_of_le h5 hb.size, bl_trans hb h6, bl_trans hb h7⟩
theorem SA2_2_b1 {w c u : World} {A0 A1 : Nat} {x00 x01 x10 x11 : Value} (h : u.cell? ⟨A0, 0, none⟩ = some x00 ∧ u.cell? ⟨A0, 1, none⟩ = some x01 ∧ u.cell? ⟨A1, 0, none⟩ = some x10 ∧ u.cell? ⟨A1, 1, none⟩ = some x11 ∧ A0 < u.heap.size ∧ A1 < u.heap.size ∧ Below w.heap.size w u ∧ Below c.heap.size c u) : Below w.heap.size w u := h.2.2.2.2.2.2.1
theorem SA2_2_b2 {w c u : World} {A0 A1 : Nat} {x00 x01 x10 x11 : Value} (h : u.cell? ⟨A0, 0, none⟩ = some x00 ∧ u.cell? ⟨A0, 1, none⟩ = some x01 ∧ u.cell? ⟨A1, 0, none⟩ = some x10 ∧ u.cell? ⟨A1, 1, none⟩ = some x11 ∧ A0 < u.heap.size ∧ A1 < u.heap.size ∧ Below w.heap.size w u ∧ Below c.heap.size c u) : Below c.heap.size c u := h.2.2.2.2.2.2.2

set_option maxHeartbeats 1000000 in
theorem walk (a0 : Int) (v0c : Value) (n0 : Nat) (f0 : Nat → Int) (w0 : (Lit.int .i64 a0).wf = true) (w : World) (hP0 : PClu w v0c n0 f0) :
    Calls Try.prog 14 #[.agg #[.int .i64 a0, v0c]] w fun e w' => e = .returned (.bool true) ∧ Below w.heap.size w w' := by
  have HH := Lib.hid hP0
  clear hP0
  obtain ⟨a, c, hv⟩ := HH.out.shape
  subst hv
  by_cases hn : n0 ≤ 1048576
  · have hNb : (lft a0 n0 f0).length ≤ n0 + 1 := lft_len _ _ _
    go_enter Try.func14, Try.ntmps14
    go_wp2_with fail
    refine (szPuzzle_any a0 _ n0 f0 _ (HH.out.keep (by repeat (first | exact Below.refl _ _ | refine bl_alloc ?_ _ | refine bl_drewN ?_ _ | refine bl_trans (by assumption) ?_ | refine bl_set ?_ (by first | omega | (simp; done) | (simp; omega)) _)))).mono ?_
    rintro e w1 ⟨rfl, hbw1⟩
    obtain ⟨hcw1, hfw1⟩ := bcell hbw1
    have hzw1 := bsize hbw1
    (try simp only [World.size_alloc, World.size_setCell] at hzw1)
    have kw1_0_0 : w1.cell? ⟨w.heap.size, 0, none⟩ = some (.int .i64 a0) := by rw [hcw1 _ _ (by first | (simp; done) | omega | (simp; omega))]; first | assumption | (simp [go_sem]; done) | (simp [go_sem]; done) | (simp [go_sem, *]; done)
    have kw1_0_1 : w1.cell? ⟨w.heap.size, 1, none⟩ = some (.slice a n0 c) := by rw [hcw1 _ _ (by first | (simp; done) | omega | (simp; omega))]; first | assumption | (simp [go_sem]; done) | (simp [go_sem]; done) | (simp [go_sem, *]; done)
    have sw1_0 : w.heap.size < w1.heap.size := by first | omega | (simp at *; omega)
    have hBw1 : Below w.heap.size w w1 := (by repeat (first | exact Below.refl _ _ | refine bl_alloc ?_ _ | refine bl_drewN ?_ _ | refine bl_trans (by assumption) ?_ | refine bl_set ?_ (by first | omega | (simp; done) | (simp; omega)) _))
    have HBw1 := Lib.hid hBw1
    clear hBw1 hcw1 hfw1 hbw1
    rw [if_pos hn]
    go_wp2_with fail
    refine (toPuzzle_any a0 _ n0 f0 _ (HH.out.keep (by repeat (first | exact HBw1.out | exact Below.refl _ _ | refine bl_alloc ?_ _ | refine bl_drewN ?_ _ | refine bl_trans (by assumption) ?_ | refine bl_set ?_ (by first | omega | (simp; done) | (simp; omega)) _))) hn).mono ?_
    rintro e w2 ⟨u1, rfl, hO1, hbw2⟩
    obtain ⟨hcw2, hfw2⟩ := bcell hbw2
    have hzw2 := bsize hbw2
    (try simp only [World.size_alloc, World.size_setCell] at hzw2)
    have hkw2 : Below w1.heap.size w1 w2 := (by repeat (first | exact Below.refl _ _ | refine bl_alloc ?_ _ | refine bl_drewN ?_ _ | refine bl_trans (by assumption) ?_ | refine bl_set ?_ (by first | omega | (simp; done) | (simp; omega)) _))
    obtain ⟨a1, c1, rfl⟩ := hO1.toP.shape
    have O1 := Lib.hid hO1
    clear hO1
    have kw2_0_0 : w2.cell? ⟨w.heap.size, 0, none⟩ = some (.int .i64 a0) := cell_after hkw2 sw1_0 kw1_0_0
    have kw2_0_1 : w2.cell? ⟨w.heap.size, 1, none⟩ = some (.slice a n0 c) := cell_after hkw2 sw1_0 kw1_0_1
    have sw2_0 : w.heap.size < w2.heap.size := size_after hkw2 sw1_0
    have hBw2 : Below w.heap.size w w2 := (by repeat (first | exact HBw1.out | exact Below.refl _ _ | refine bl_alloc ?_ _ | refine bl_drewN ?_ _ | refine bl_trans (by assumption) ?_ | refine bl_set ?_ (by first | omega | (simp; done) | (simp; omega)) _))
    have HBw2 := Lib.hid hBw2
    clear hBw2 hcw2 hfw2 hbw2 hkw2 kw1_0_0 kw1_0_1 sw1_0
    go_wp2_with fail
    refine (spec_LeftByClues a0 _ n0 f0 _ O1.out.toP O1.out.caps).mono ?_
    rintro e w3 ⟨v0, rfl, hV0, hbw3⟩
    obtain ⟨hcw3, hfw3⟩ := bcell hbw3
    have hzw3 := bsize hbw3
    (try simp only [World.size_alloc, World.size_setCell] at hzw3)
    have hkw3 : Below w2.heap.size w2 w3 := (by repeat (first | exact Below.refl _ _ | refine bl_alloc ?_ _ | refine bl_drewN ?_ _ | refine bl_trans (by assumption) ?_ | refine bl_set ?_ (by first | omega | (simp; done) | (simp; omega)) _))
    obtain ⟨av, cv, rfl⟩ := hV0.shape
    have lt_v0 := Lib.hid hV0.lt
    have V := Lib.hid hV0
    clear hV0
    have kw3_0_0 : w3.cell? ⟨w.heap.size, 0, none⟩ = some (.int .i64 a0) := cell_after hkw3 sw2_0 kw2_0_0
    have kw3_0_1 : w3.cell? ⟨w.heap.size, 1, none⟩ = some (.slice a n0 c) := cell_after hkw3 sw2_0 kw2_0_1
    have sw3_0 : w.heap.size < w3.heap.size := size_after hkw3 sw2_0
    have hBw3 : Below w.heap.size w w3 := (by repeat (first | exact HBw2.out | exact Below.refl _ _ | refine bl_alloc ?_ _ | refine bl_drewN ?_ _ | refine bl_trans (by assumption) ?_ | refine bl_set ?_ (by first | omega | (simp; done) | (simp; omega)) _))
    have HBw3 := Lib.hid hBw3
    clear hBw3 hcw3 hfw3 hbw3 hkw3 kw2_0_0 kw2_0_1 sw2_0
    go_wp2_with fail
    refine (toPuzzle_any a0 _ n0 f0 _ (HH.out.keep (by repeat (first | exact HBw3.out | exact Below.refl _ _ | refine bl_alloc ?_ _ | refine bl_drewN ?_ _ | refine bl_trans (by assumption) ?_ | refine bl_set ?_ (by first | omega | (simp; done) | (simp; omega)) _))) hn).mono ?_
    rintro e w4 ⟨u2, rfl, hO2, hbw4⟩
    obtain ⟨hcw4, hfw4⟩ := bcell hbw4
    have hzw4 := bsize hbw4
    (try simp only [World.size_alloc, World.size_setCell] at hzw4)
    have hkw4 : Below w3.heap.size w3 w4 := (by repeat (first | exact Below.refl _ _ | refine bl_alloc ?_ _ | refine bl_drewN ?_ _ | refine bl_trans (by assumption) ?_ | refine bl_set ?_ (by first | omega | (simp; done) | (simp; omega)) _))
    have V := Lib.hid (V.out.keep hkw4)
    obtain ⟨a2, c2, rfl⟩ := hO2.toP.shape
    have ge_u2 := Lib.hid hO2.ge
    have lt_u2 := Lib.hid hO2.lt
    have O2 := Lib.hid hO2
    clear hO2
    have kw4_0_0 : w4.cell? ⟨w.heap.size, 0, none⟩ = some (.int .i64 a0) := cell_after hkw4 sw3_0 kw3_0_0
    have kw4_0_1 : w4.cell? ⟨w.heap.size, 1, none⟩ = some (.slice a n0 c) := cell_after hkw4 sw3_0 kw3_0_1
    have sw4_0 : w.heap.size < w4.heap.size := size_after hkw4 sw3_0
    have hBw4 : Below w.heap.size w w4 := (by repeat (first | exact HBw3.out | exact Below.refl _ _ | refine bl_alloc ?_ _ | refine bl_drewN ?_ _ | refine bl_trans (by assumption) ?_ | refine bl_set ?_ (by first | omega | (simp; done) | (simp; omega)) _))
    have HBw4 := Lib.hid hBw4
    clear hBw4 hcw4 hfw4 hbw4 hkw4 kw3_0_0 kw3_0_1 sw3_0
    go_wp2_with fail
    refine (impl_LeftByClues a0 _ n0 f0 _ (O2.out.toP.keep (by repeat (first | exact Below.refl _ _ | refine bl_alloc ?_ _ | refine bl_drewN ?_ _ | refine bl_trans (by assumption) ?_ | refine bl_set ?_ (by first | omega | (simp; done) | (simp; omega)) _))) O2.out.caps).mono ?_
    rintro e w5 ⟨g0, rfl, hG, hbw5⟩
    obtain ⟨hcw5, hfw5⟩ := bcell hbw5
    have hzw5 := bsize hbw5
    (try simp only [World.size_alloc, World.size_setCell] at hzw5)
    have hkw5 : Below w4.heap.size w4 w5 := (by repeat (first | exact Below.refl _ _ | refine bl_alloc ?_ _ | refine bl_drewN ?_ _ | refine bl_trans (by assumption) ?_ | refine bl_set ?_ (by first | omega | (simp; done) | (simp; omega)) _))
    have V := Lib.hid (V.out.keep hkw5)
    have O2 := Lib.hid (O2.out.keep hkw5)
    have hG := hG.lower (B := w4.heap.size + 1) (by simp)
    obtain ⟨ag, cg, rfl⟩ := hG.shape
    have ge_g0 := Lib.hid hG.ge
    have G := Lib.hid hG
    clear hG
    have kw5_0_0 : w5.cell? ⟨w.heap.size, 0, none⟩ = some (.int .i64 a0) := cell_after hkw5 sw4_0 kw4_0_0
    have kw5_0_1 : w5.cell? ⟨w.heap.size, 1, none⟩ = some (.slice a n0 c) := cell_after hkw5 sw4_0 kw4_0_1
    have sw5_0 : w.heap.size < w5.heap.size := size_after hkw5 sw4_0
    have kw5_1_0 : w5.cell? ⟨w4.heap.size, 0, none⟩ = some (.int .i64 a0) := by rw [hcw5 _ _ (by first | (simp; done) | omega | (simp; omega))]; first | assumption | (simp [go_sem]; done) | (simp [go_sem, kw4_0_0, kw4_0_1]; done) | (simp [go_sem, *]; done)
    have kw5_1_1 : w5.cell? ⟨w4.heap.size, 1, none⟩ = some (.slice a2 n0 c2) := by rw [hcw5 _ _ (by first | (simp; done) | omega | (simp; omega))]; first | assumption | (simp [go_sem]; done) | (simp [go_sem, kw4_0_0, kw4_0_1]; done) | (simp [go_sem, *]; done)
    have sw5_1 : w4.heap.size < w5.heap.size := by first | omega | (simp at *; omega)
    have hBw5 : Below w.heap.size w w5 := (by repeat (first | exact HBw4.out | exact Below.refl _ _ | refine bl_alloc ?_ _ | refine bl_drewN ?_ _ | refine bl_trans (by assumption) ?_ | refine bl_set ?_ (by first | omega | (simp; done) | (simp; omega)) _))
    have HBw5 := Lib.hid hBw5
    clear hBw5 hcw5 hfw5 hbw5 hkw5 kw4_0_0 kw4_0_1 sw4_0
    go_wp2_with fail
    refine (eqIntS_any _ _ _ _ _ _ G.out V.out).mono ?_
    rintro e w6 ⟨rfl, mw6, hww6⟩
    have hbw6 : Below w5.heap.size w5 w6 := by rw [hww6]; exact below_drewN (Below.refl _ _) _
    have hzw6 := hbw6.size
    have nw6_0_0 := cell_after hbw6 sw5_0 kw5_0_0
    have nw6_0_1 := cell_after hbw6 sw5_0 kw5_0_1
    have nsw6_0 := size_after hbw6 sw5_0
    have nw6_1_0 := cell_after hbw6 sw5_1 kw5_1_0
    have nw6_1_1 := cell_after hbw6 sw5_1 kw5_1_1
    have nsw6_1 := size_after hbw6 sw5_1
    have V := Lib.hid (V.out.keep hbw6)
    have O2 := Lib.hid (O2.out.keep hbw6)
    have G := Lib.hid (G.out.keep hbw6)
    have HBw6 := Lib.hid (bl_trans hbw6 HBw5.out)
    clear hww6 hbw6 kw5_0_0 kw5_0_1 sw5_0 kw5_1_0 kw5_1_1 sw5_1
    go_wp2_with fail
    have hS1 := (⟨(by first | assumption | (simp [go_sem]; done) | (simp [go_sem, *]; done)), (by first | assumption | (simp [go_sem]; done) | (simp [go_sem, *]; done)), (by first | assumption | (simp [go_sem]; done) | (simp [go_sem, *]; done)), (by first | assumption | (simp [go_sem]; done) | (simp [go_sem, *]; done)), (by first | assumption | omega | (simp; done) | (simp; omega)), (by first | assumption | omega | (simp; done) | (simp; omega)), (by repeat (first | exact HBw6.out | exact Below.refl _ _ | refine bl_alloc ?_ _ | refine bl_drewN ?_ _ | refine bl_trans (by assumption) ?_ | refine bl_set ?_ (by first | omega | (simp; done) | (simp; omega)) _)), (by repeat (first | exact Below.refl _ _ | refine bl_alloc ?_ _ | refine bl_drewN ?_ _ | refine bl_trans (by assumption) ?_ | refine bl_set ?_ (by first | omega | (simp; done) | (simp; omega)) _))⟩ : w6.cell? ⟨w.heap.size, 0, none⟩ = some (.int .i64 a0) ∧ w6.cell? ⟨w.heap.size, 1, none⟩ = some (.slice a n0 c) ∧ w6.cell? ⟨w4.heap.size, 0, none⟩ = some (.int .i64 a0) ∧ w6.cell? ⟨w4.heap.size, 1, none⟩ = some (.slice a2 n0 c2) ∧ w.heap.size < w6.heap.size ∧ w4.heap.size < w6.heap.size ∧ Below w.heap.size w w6 ∧ Below w6.heap.size w6 w6)
    go_region_held3 (fun w' => w'.cell? ⟨w.heap.size, 0, none⟩ = some (.int .i64 a0) ∧ w'.cell? ⟨w.heap.size, 1, none⟩ = some (.slice a n0 c) ∧ w'.cell? ⟨w4.heap.size, 0, none⟩ = some (.int .i64 a0) ∧ w'.cell? ⟨w4.heap.size, 1, none⟩ = some (.slice a2 n0 c2) ∧ w.heap.size < w'.heap.size ∧ w4.heap.size < w'.heap.size ∧ Below w.heap.size w w' ∧ Below w6.heap.size w6 w') (first | exact SA2_2_after hbp2 (by assumption) | exact SA2_2_after hbp1 (by assumption) | exact SA2_2_after (below_drewN (Below.refl _ _) _) (by assumption) | exact SA2_2_after (Below.drew (Below.refl _ _)) (by assumption) | assumption) (first | (go_at_call 23; refine (toPuzzle_any a0 _ n0 f0 _ (HH.out.keep (SA2_2_b1 (w := w) (c := w6) (by assumption))) hn).mono ?_; rintro e p1 ⟨u3, rfl, hO3, hbp1⟩) | (go_at_call 25; refine (eqPuzzle_any a0 _ _ n0 f0 _ (O2.out.toP.keep (SA2_2_b2 (w := w) (c := w6) (by assumption))) hO3.toP).mono ?_; rintro e p2 ⟨rfl, hbp2⟩) | fail)
    rename_i hh1
    clear hS1 nw6_0_0 nw6_0_1 nsw6_0 nw6_1_0 nw6_1_1 nsw6_1
    obtain ⟨m1_0_0, m1_0_1, m1_1_0, m1_1_1, ms1_0, ms1_1, hm1, hk1⟩ := hh1
    have HM1 := Lib.hid hm1
    have V := Lib.hid (V.out.keep hk1)
    have O2 := Lib.hid (O2.out.keep hk1)
    have G := Lib.hid (G.out.keep hk1)
    clear hm1 hk1
    go_wp2_with fail
    refine (markPuzzle_any a0 _ n0 f0 _ _ O2.out hn).mono ?_
    rintro e w7 ⟨rfl, hO_, hg_⟩
    have hzw7 := hg_.size
    have nw7_0_0 := cell_far hg_ ms1_0 (box_ne ge_u2.out (by omega)) m1_0_0
    have nw7_0_1 := cell_far hg_ ms1_0 (box_ne ge_u2.out (by omega)) m1_0_1
    have nsw7_0 := Nat.lt_of_lt_of_le ms1_0 hzw7
    have nw7_1_0 := cell_far hg_ ms1_1 (box_ne' lt_u2.out (by omega)) m1_1_0
    have nw7_1_1 := cell_far hg_ ms1_1 (box_ne' lt_u2.out (by omega)) m1_1_1
    have nsw7_1 := Nat.lt_of_lt_of_le ms1_1 hzw7
    have V := Lib.hid (V.out.other hg_ (row_ne lt_v0.out ge_u2.out (by omega)))
    have G := Lib.hid (G.out.other hg_ (row_ne' ge_g0.out lt_u2.out (by omega)))
    have O2 := Lib.hid hO_
    have HBw7 := Lib.hid (bel_far HM1.out hg_ ge_u2.out (by omega))
    clear hO_ hg_ m1_0_0 m1_0_1 ms1_0 m1_1_0 m1_1_1 ms1_1
    have hk0 : ¬ (1 + (n0 : Int) * 3 < 0) := by omega
    go_wp2_with fail
    refine (eqIntS_any _ _ _ _ _ _ G.out V.out).mono ?_
    rintro e w8 ⟨rfl, mw8, hww8⟩
    have hbw8 : Below w7.heap.size w7 w8 := by rw [hww8]; exact below_drewN (Below.refl _ _) _
    have hzw8 := hbw8.size
    have nw8_0_0 := cell_after hbw8 nsw7_0 nw7_0_0
    have nw8_0_1 := cell_after hbw8 nsw7_0 nw7_0_1
    have nsw8_0 := size_after hbw8 nsw7_0
    have nw8_1_0 := cell_after hbw8 nsw7_1 nw7_1_0
    have nw8_1_1 := cell_after hbw8 nsw7_1 nw7_1_1
    have nsw8_1 := size_after hbw8 nsw7_1
    have V := Lib.hid (V.out.keep hbw8)
    have O2 := Lib.hid (O2.out.keep hbw8)
    have G := Lib.hid (G.out.keep hbw8)
    have HBw8 := Lib.hid (bl_trans hbw8 HBw7.out)
    clear hww8 hbw8 nw7_0_0 nw7_0_1 nsw7_0 nw7_1_0 nw7_1_1 nsw7_1
    go_wp2_with fail
    refine (markIntS_any _ 1 _ _ _ G.out (by omega) (by omega)).mono ?_
    rintro e w9 ⟨rfl, hO_, hg_, hs_⟩
    have hzw9 := hg_.size
    have nw9_0_0 := cell_far hg_ nsw8_0 (box_ne ge_g0.out (by omega)) nw8_0_0
    have nw9_0_1 := cell_far hg_ nsw8_0 (box_ne ge_g0.out (by omega)) nw8_0_1
    have nsw9_0 := Nat.lt_of_lt_of_le nsw8_0 hzw9
    have nw9_1_0 := cell_far hg_ nsw8_1 (box_ne ge_g0.out (by omega)) nw8_1_0
    have nw9_1_1 := cell_far hg_ nsw8_1 (box_ne ge_g0.out (by omega)) nw8_1_1
    have nsw9_1 := Nat.lt_of_lt_of_le nsw8_1 hzw9
    have V := Lib.hid (V.out.other hg_ (row_ne lt_v0.out ge_g0.out (by omega)))
    have O2 := Lib.hid (O2.out.other hg_ (row_ne lt_u2.out ge_g0.out (by omega)))
    have G := Lib.hid hO_
    have HBw9 := Lib.hid (bel_far HBw8.out hg_ ge_g0.out (by omega))
    clear hO_ hg_ hs_ nw8_0_0 nw8_0_1 nsw8_0 nw8_1_0 nw8_1_1 nsw8_1
    go_wp2_with fail
    refine (heldIntS_any _ 1 _ _ _ G.out (by omega) (by omega)).mono ?_
    rintro e w10 ⟨rfl, mw10, hww10⟩
    have hbw10 : Below w9.heap.size w9 w10 := by rw [hww10]; exact below_drewN (Below.refl _ _) _
    have hzw10 := hbw10.size
    have nw10_0_0 := cell_after hbw10 nsw9_0 nw9_0_0
    have nw10_0_1 := cell_after hbw10 nsw9_0 nw9_0_1
    have nsw10_0 := size_after hbw10 nsw9_0
    have nw10_1_0 := cell_after hbw10 nsw9_1 nw9_1_0
    have nw10_1_1 := cell_after hbw10 nsw9_1 nw9_1_1
    have nsw10_1 := size_after hbw10 nsw9_1
    have V := Lib.hid (V.out.keep hbw10)
    have O2 := Lib.hid (O2.out.keep hbw10)
    have G := Lib.hid (G.out.keep hbw10)
    have HBw10 := Lib.hid (bl_trans hbw10 HBw9.out)
    clear hww10 hbw10 nw9_0_0 nw9_0_1 nsw9_0 nw9_1_0 nw9_1_1 nsw9_1
    go_wp2_with fail
    refine (toPuzzle_any a0 _ n0 f0 _ (HH.out.keep (by repeat (first | exact HBw10.out | exact Below.refl _ _ | refine bl_alloc ?_ _ | refine bl_drewN ?_ _ | refine bl_trans (by assumption) ?_ | refine bl_set ?_ (by first | omega | (simp; done) | (simp; omega)) _))) hn).mono ?_
    rintro e w11 ⟨u4, rfl, hO4, hbw11⟩
    obtain ⟨hcw11, hfw11⟩ := bcell hbw11
    have hzw11 := bsize hbw11
    (try simp only [World.size_alloc, World.size_setCell] at hzw11)
    have hkw11 : Below w10.heap.size w10 w11 := (by repeat (first | exact Below.refl _ _ | refine bl_alloc ?_ _ | refine bl_drewN ?_ _ | refine bl_trans (by assumption) ?_ | refine bl_set ?_ (by first | omega | (simp; done) | (simp; omega)) _))
    have V := Lib.hid (V.out.keep hkw11)
    have G := Lib.hid (G.out.keep hkw11)
    obtain ⟨a4, c4, rfl⟩ := hO4.toP.shape
    have O4 := Lib.hid hO4
    clear hO4
    have kw11_0_0 : w11.cell? ⟨w.heap.size, 0, none⟩ = some (.int .i64 a0) := cell_after hkw11 nsw10_0 nw10_0_0
    have kw11_0_1 : w11.cell? ⟨w.heap.size, 1, none⟩ = some (.slice a n0 c) := cell_after hkw11 nsw10_0 nw10_0_1
    have sw11_0 : w.heap.size < w11.heap.size := size_after hkw11 nsw10_0
    have kw11_1_0 : w11.cell? ⟨w4.heap.size, 0, none⟩ = some (.int .i64 a0) := cell_after hkw11 nsw10_1 nw10_1_0
    have kw11_1_1 : w11.cell? ⟨w4.heap.size, 1, none⟩ = some (.slice a2 n0 c2) := cell_after hkw11 nsw10_1 nw10_1_1
    have sw11_1 : w4.heap.size < w11.heap.size := size_after hkw11 nsw10_1
    have hBw11 : Below w.heap.size w w11 := (by repeat (first | exact HBw10.out | exact Below.refl _ _ | refine bl_alloc ?_ _ | refine bl_drewN ?_ _ | refine bl_trans (by assumption) ?_ | refine bl_set ?_ (by first | omega | (simp; done) | (simp; omega)) _))
    have HBw11 := Lib.hid hBw11
    clear hBw11 hcw11 hfw11 hbw11 hkw11 nw10_0_0 nw10_0_1 nsw10_0 nw10_1_0 nw10_1_1 nsw10_1
    go_wp2_with fail
    refine (impl_LeftByClues a0 _ n0 f0 _ O4.out.toP O4.out.caps).mono ?_
    rintro e w12 ⟨h0, rfl, hH, hbw12⟩
    obtain ⟨hcw12, hfw12⟩ := bcell hbw12
    have hzw12 := bsize hbw12
    (try simp only [World.size_alloc, World.size_setCell] at hzw12)
    have hkw12 : Below w11.heap.size w11 w12 := (by repeat (first | exact Below.refl _ _ | refine bl_alloc ?_ _ | refine bl_drewN ?_ _ | refine bl_trans (by assumption) ?_ | refine bl_set ?_ (by first | omega | (simp; done) | (simp; omega)) _))
    have V := Lib.hid (V.out.keep hkw12)
    have G := Lib.hid (G.out.keep hkw12)
    obtain ⟨ah, ch, rfl⟩ := hH.shape
    have HR := Lib.hid hH
    clear hH
    have kw12_0_0 : w12.cell? ⟨w.heap.size, 0, none⟩ = some (.int .i64 a0) := cell_after hkw12 sw11_0 kw11_0_0
    have kw12_0_1 : w12.cell? ⟨w.heap.size, 1, none⟩ = some (.slice a n0 c) := cell_after hkw12 sw11_0 kw11_0_1
    have sw12_0 : w.heap.size < w12.heap.size := size_after hkw12 sw11_0
    have kw12_1_0 : w12.cell? ⟨w4.heap.size, 0, none⟩ = some (.int .i64 a0) := cell_after hkw12 sw11_1 kw11_1_0
    have kw12_1_1 : w12.cell? ⟨w4.heap.size, 1, none⟩ = some (.slice a2 n0 c2) := cell_after hkw12 sw11_1 kw11_1_1
    have sw12_1 : w4.heap.size < w12.heap.size := size_after hkw12 sw11_1
    have hBw12 : Below w.heap.size w w12 := (by repeat (first | exact HBw11.out | exact Below.refl _ _ | refine bl_alloc ?_ _ | refine bl_drewN ?_ _ | refine bl_trans (by assumption) ?_ | refine bl_set ?_ (by first | omega | (simp; done) | (simp; omega)) _))
    have HBw12 := Lib.hid hBw12
    clear hBw12 hcw12 hfw12 hbw12 hkw12 kw11_0_0 kw11_0_1 sw11_0 kw11_1_0 kw11_1_1 sw11_1
    go_wp2_with fail
    refine (eqIntS_any _ _ _ _ _ _ HR.out V.out).mono ?_
    rintro e w13 ⟨rfl, mw13, hww13⟩
    have hbw13 : Below w12.heap.size w12 w13 := by rw [hww13]; exact below_drewN (Below.refl _ _) _
    have hzw13 := hbw13.size
    have nw13_0_0 := cell_after hbw13 sw12_0 kw12_0_0
    have nw13_0_1 := cell_after hbw13 sw12_0 kw12_0_1
    have nsw13_0 := size_after hbw13 sw12_0
    have nw13_1_0 := cell_after hbw13 sw12_1 kw12_1_0
    have nw13_1_1 := cell_after hbw13 sw12_1 kw12_1_1
    have nsw13_1 := size_after hbw13 sw12_1
    have V := Lib.hid (V.out.keep hbw13)
    have G := Lib.hid (G.out.keep hbw13)
    have HBw13 := Lib.hid (bl_trans hbw13 HBw12.out)
    clear hww13 hbw13 kw12_0_0 kw12_0_1 sw12_0 kw12_1_0 kw12_1_1 sw12_1
    go_wp2_with fail
    refine (heldIntS_any _ 1 _ _ _ G.out (by omega) (by omega)).mono ?_
    rintro e w14 ⟨rfl, mw14, hww14⟩
    have hbw14 : Below w13.heap.size w13 w14 := by rw [hww14]; exact below_drewN (Below.refl _ _) _
    have hzw14 := hbw14.size
    have nw14_0_0 := cell_after hbw14 nsw13_0 nw13_0_0
    have nw14_0_1 := cell_after hbw14 nsw13_0 nw13_0_1
    have nsw14_0 := size_after hbw14 nsw13_0
    have nw14_1_0 := cell_after hbw14 nsw13_1 nw13_1_0
    have nw14_1_1 := cell_after hbw14 nsw13_1 nw13_1_1
    have nsw14_1 := size_after hbw14 nsw13_1
    have V := Lib.hid (V.out.keep hbw14)
    have G := Lib.hid (G.out.keep hbw14)
    have HBw14 := Lib.hid (bl_trans hbw14 HBw13.out)
    clear hww14 hbw14 nw13_0_0 nw13_0_1 nsw13_0 nw13_1_0 nw13_1_1 nsw13_1
    go_wp2
    go_ret
    exact ⟨rfl, (by repeat (first | exact HBw14.out | exact Below.refl _ _ | refine bl_alloc ?_ _ | refine bl_drewN ?_ _ | refine bl_trans (by assumption) ?_ | refine bl_set ?_ (by first | omega | (simp; done) | (simp; omega)) _))⟩
  · go_enter Try.func14, Try.ntmps14
    go_wp2_with fail
    refine (szPuzzle_any a0 _ n0 f0 _ (HH.out.keep (by repeat (first | exact Below.refl _ _ | refine bl_alloc ?_ _ | refine bl_drewN ?_ _ | refine bl_trans (by assumption) ?_ | refine bl_set ?_ (by first | omega | (simp; done) | (simp; omega)) _)))).mono ?_
    rintro e w1 ⟨rfl, hb1⟩
    rw [if_neg hn]
    go_wp2
    go_ret
    exact ⟨rfl, (by repeat (first | exact Below.refl _ _ | refine bl_alloc ?_ _ | refine bl_drewN ?_ _ | refine bl_trans hb1 ?_ | refine bl_set ?_ (by first | omega | (simp; done) | (simp; omega)) _))⟩

set_option maxRecDepth 100000 in
theorem lifted (os : Os) (started : os.Started) (H : Type) (enc : TypeId × Value → H) :
    ReturnsInHanded {} Try.checked os 14 .any (Rows.fnExactLeftByCluesSpec.pre6 enc Try.prog Try.f14 Rows.fnExactLeftByCluesRow.domain false) (Rows.fnExactLeftByCluesSpec.post enc Try.prog Try.f14 false true false false) := by
  refine returnsInHanded_of_change (C := Try.checked) own started (by kernel_rfl) Try.func14
    (ChangeSpec.witness6 (enc := enc) (C := Try.checked) false ⟨#[], #[.agg #[.int .i64 0, .slice none 0 0]], []⟩ 8 (by kernel_rfl) (by kernel_rfl) (by kernel_rfl) (by kernel_rfl)) ?_
  intro W base args ds gs before hval0 hW hcnd _
  have hval : ∀ (j : Nat) t v, Try.f14.params[j]? = some t → args[j]? = some v → Value.okWide Try.prog W .any base t v := hval0
  have hW' := hW
  obtain ⟨p, q, hA0, hV, rfl, hfz, hnd⟩ := hW
  have hA : DataW.TrodAll enc Try.prog W 0 (fun _ => true) true Try.f14.params.toList args.toList ds p := hA0
  rw [Try.params14] at hA hval
  obtain ⟨v0, vs0, d0, ds0, p0, q0, hargs, rfl, rfl, h0, r0⟩ := trodAll_cons hA
  obtain ⟨rfl, rfl, rfl⟩ := trodAll_nil r0
  obtain rfl : args = #[v0] := by cases args; simp_all
  obtain ⟨rfl, rfl⟩ := trodVars_none hV
  have k0 := h0
  have lt0 : ∀ x ∈ p0, x.block < W.heap.size := by obtain ⟨m, hm⟩ := k0; exact DataW.trod_lt m _ _ _ hm
  obtain ⟨c0, v0c, y00, y01, m0, rfl, rfl, rfl, hy00, hy01⟩ := open_agg2 Try.underlying30 (by kernel_rfl) (by kernel_rfl) (hval 0 30 v0 rfl rfl) h0
  obtain ⟨a0, e00, rfl, w0⟩ := DataW.trod_int Try.underlying3 hy00
  simp at e00
  subst e00
  obtain ⟨n0, f0, hP0⟩ := open_clues hy01
  clear hA0 hval0
  refine (walk a0 v0c n0 f0 w0 W hP0).mono fun e W' ⟨he, bel⟩ => ?_
  subst he
  exact ⟨_, rfl, _, _, _, [], _, [], hW', trodAll_mk1 (shut_bool Try.underlying4 _), (trodAll_cons_mk (Below.trod laidOut (by kernel_rfl) (of_decide_eq_true (by kernel_rfl)) k0 bel lt0) trodAll_mk0), rfl, bel.frame _, fun h => by cases h⟩

theorem over : Rows.fnExactLeftByCluesRow.holds Try.pinned (OpenSpec.ofChange Rows.fnExactLeftByCluesSpec) :=
  OpenClaim.holds_of_wide 14 Try.f14 rfl rfl rfl rfl rfl rfl rfl ⟨rfl, rfl, rfl, rfl, rfl⟩ rfl rfl rfl rfl rfl (by kernel_rfl) Try.func14 (by simp only [joinedFacts, make, lifts, may, Bool.and_true]; kernel_rfl)
    (of_decide_eq_true (by kernel_rfl)) (by unfold Func.isWrapper; first | (rw [if_pos (by decide +kernel)]; kernel_rfl) | (rw [if_neg (by decide +kernel)]; exact ⟨rfl, rfl⟩))
    (fun os started H enc _ => lifted os started H enc)

theorem proved : Rows.FnExactLeftByCluesSaid := over
#print axioms proved
end Go.Proofs.Ytgghceckpdfogaa.fnExactLeftByClues

/- The law 'FnExactPuzzleText' holds for every input. -/
import Derived.Test.YtahcfjpplkemdaaDoorPZX
import Derived.Test.YtahcfjpplkemdaaDoorO
import Derived.ProofKit
import Derived.OpenShut
import Derived.ShutString
import Derived.ChangeOld
import Derived.Lib.SmallJoins
import Derived.LaidMore
import Derived.Stop.LaidErr
import Derived.Stop.Joined
import Derived.Test.YtahcfjpplkemdaaDoorTie
import Derived.Test.YtahcfjpplkemdaaDoorCards
import Derived.SevenTiedAt
namespace Go.Proofs.YtahcfjpplkemdaaDoor.fnExactPuzzleText
open Go
open Go.ChangeShapes Go.WideShapes Go.ChangeAt Go.RowKit Go.Joins
open Go.ChangeMaps (open_string shut_string)
set_option linter.unusedVariables false
set_option linter.unusedSimpArgs false
theorem own : ownKnob Tryd.prog.godebug = none := by kernel_rfl
theorem laidOut : laidOutB Tryd.prog = true := by kernel_rfl
theorem SA2_2_after {w c u v : World} {A0 A1 : Nat} {x00 x01 x10 x11 : Value} (hb : Below u.heap.size u v) (h : u.cell? ⟨A0, 0, none⟩ = some x00 ∧ u.cell? ⟨A0, 1, none⟩ = some x01 ∧ u.cell? ⟨A1, 0, none⟩ = some x10 ∧ u.cell? ⟨A1, 1, none⟩ = some x11 ∧ A0 < u.heap.size ∧ A1 < u.heap.size ∧ Below w.heap.size w u ∧ Below c.heap.size c u) : v.cell? ⟨A0, 0, none⟩ = some x00 ∧ v.cell? ⟨A0, 1, none⟩ = some x01 ∧ v.cell? ⟨A1, 0, none⟩ = some x10 ∧ v.cell? ⟨A1, 1, none⟩ = some x11 ∧ A0 < v.heap.size ∧ A1 < v.heap.size ∧ Below w.heap.size w v ∧ Below c.heap.size c v := by
  obtain ⟨h0, h1, h2, h3, h4, h5, h6, h7⟩ := h
  exact ⟨by rw [(bcell hb).1 _ _ h4]; exact h0, by rw [(bcell hb).1 _ _ h4]; exact h1, by rw [(bcell hb).1 _ _ h5]; exact h2, by rw [(bcell hb).1 _ _ h5]; exact h3, Nat.lt_of_lt_of_le h4 hb.size, Nat.lt_of_lt_of_le h5 hb.size, bl_trans hb h6, bl_trans hb h7⟩
theorem SA2_2_b1 {w c u : World} {A0 A1 : Nat} {x00 x01 x10 x11 : Value} (h : u.cell? ⟨A0, 0, none⟩ = some x00 ∧ u.cell? ⟨A0, 1, none⟩ = some x01 ∧ u.cell? ⟨A1, 0, none⟩ = some x10 ∧ u.cell? ⟨A1, 1, none⟩ = some x11 ∧ A0 < u.heap.size ∧ A1 < u.heap.size ∧ Below w.heap.size w u ∧ Below c.heap.size c u) : Below w.heap.size w u := h.2.2.2.2.2.2.1
theorem SA2_2_b2 {w c u : World} {A0 A1 : Nat} {x00 x01 x10 x11 : Value} (h : u.cell? ⟨A0, 0, none⟩ = some x00 ∧ u.cell? ⟨A0, 1, none⟩ = some x01 ∧ u.cell? ⟨A1, 0, none⟩ = some x10 ∧ u.cell? ⟨A1, 1, none⟩ = some x11 ∧ A0 < u.heap.size ∧ A1 < u.heap.size ∧ Below w.heap.size w u ∧ Below c.heap.size c u) : Below c.heap.size c u := h.2.2.2.2.2.2.2

set_option maxHeartbeats 1000000 in
theorem walk (a0 : Int) (v0c : Value) (n0 : Nat) (f0 : Nat → Int) (w0 : (Lit.int .i64 a0).wf = true) (w : World) (hP0 : PClu w v0c n0 f0) (T : Tab w) :
    Calls Tryd.prog 3 #[.agg #[.int .i64 a0, v0c]] w fun e w' => e = .returned (.bool true) ∧ Below w.heap.size w w' := by
  have HH := Lib.hid hP0
  clear hP0
  obtain ⟨a, c, hv⟩ := HH.out.shape
  subst hv
  by_cases hn : n0 ≤ 1048576
  · have T0 := Lib.hid T
    clear T
    go_enter Tryd.func3, Tryd.ntmps3
    go_wp2_with fail
    refine (szPuzzle_any a0 _ n0 f0 _ (HH.out.keep (by repeat (first | exact Below.refl _ _ | refine bl_alloc ?_ _ | refine bl_drewN ?_ _ | refine bl_trans (by assumption) ?_ | refine bl_set ?_ (by first | omega | (simp; done) | (simp; omega)) _)))).mono ?_
    rintro e w1 ⟨rfl, hbw1⟩
    obtain ⟨hcw1, hfw1⟩ := bcell hbw1
    have hzw1 := bsize hbw1
    (try simp only [World.size_alloc, World.size_setCell] at hzw1)
    have kw1_0_0 : w1.cell? ⟨w.heap.size, 0, none⟩ = some (.int .i64 a0) := by rw [hcw1 _ _ (by first | (simp; done) | omega | (simp; omega))]; first | assumption | (simp [go_sem]; done) | (simp [go_sem]; done) | (simp [go_sem, *]; done)
    have kw1_0_1 : w1.cell? ⟨w.heap.size, 1, none⟩ = some (.slice a n0 c) := by rw [hcw1 _ _ (by first | (simp; done) | omega | (simp; omega))]; first | assumption | (simp [go_sem]; done) | (simp [go_sem]; done) | (simp [go_sem, *]; done)
    have sw1_0 : w.heap.size < w1.heap.size := by first | omega | (simp at *; omega)
    have hBw1 : Below w.heap.size w w1 := (by repeat (first | exact Below.refl _ _ | refine bl_alloc ?_ _ | refine bl_drewN ?_ _ | refine bl_trans (by assumption) ?_ | refine bl_set ?_ (by first | omega | (simp; done) | (simp; omega)) _))
    have HBw1 := Lib.hid hBw1
    clear hBw1 hcw1 hfw1 hbw1
    rw [if_pos hn]
    go_wp2_with fail
    refine (toPuzzle_any a0 _ n0 f0 _ (HH.out.keep (by repeat (first | exact HBw1.out | exact Below.refl _ _ | refine bl_alloc ?_ _ | refine bl_drewN ?_ _ | refine bl_trans (by assumption) ?_ | refine bl_set ?_ (by first | omega | (simp; done) | (simp; omega)) _))) hn).mono ?_
    rintro e w2 ⟨u1, rfl, hO1, hbw2⟩
    obtain ⟨hcw2, hfw2⟩ := bcell hbw2
    have hzw2 := bsize hbw2
    (try simp only [World.size_alloc, World.size_setCell] at hzw2)
    have hkw2 : Below w1.heap.size w1 w2 := (by repeat (first | exact Below.refl _ _ | refine bl_alloc ?_ _ | refine bl_drewN ?_ _ | refine bl_trans (by assumption) ?_ | refine bl_set ?_ (by first | omega | (simp; done) | (simp; omega)) _))
    obtain ⟨a1, c1, rfl⟩ := hO1.toP.shape
    have O1 := Lib.hid hO1
    clear hO1
    have kw2_0_0 : w2.cell? ⟨w.heap.size, 0, none⟩ = some (.int .i64 a0) := cell_after hkw2 sw1_0 kw1_0_0
    have kw2_0_1 : w2.cell? ⟨w.heap.size, 1, none⟩ = some (.slice a n0 c) := cell_after hkw2 sw1_0 kw1_0_1
    have sw2_0 : w.heap.size < w2.heap.size := size_after hkw2 sw1_0
    have hBw2 : Below w.heap.size w w2 := (by repeat (first | exact HBw1.out | exact Below.refl _ _ | refine bl_alloc ?_ _ | refine bl_drewN ?_ _ | refine bl_trans (by assumption) ?_ | refine bl_set ?_ (by first | omega | (simp; done) | (simp; omega)) _))
    have HBw2 := Lib.hid hBw2
    clear hBw2 hcw2 hfw2 hbw2 hkw2 kw1_0_0 kw1_0_1 sw1_0
    go_wp2_with fail
    refine (spec_PuzzleText a0 _ n0 f0 _ O1.out.toP).mono ?_
    rintro e w3 ⟨rfl, hbw3⟩
    obtain ⟨hcw3, hfw3⟩ := bcell hbw3
    have hzw3 := bsize hbw3
    (try simp only [World.size_alloc, World.size_setCell] at hzw3)
    have hkw3 : Below w2.heap.size w2 w3 := (by repeat (first | exact Below.refl _ _ | refine bl_alloc ?_ _ | refine bl_drewN ?_ _ | refine bl_trans (by assumption) ?_ | refine bl_set ?_ (by first | omega | (simp; done) | (simp; omega)) _))
    have kw3_0_0 : w3.cell? ⟨w.heap.size, 0, none⟩ = some (.int .i64 a0) := cell_after hkw3 sw2_0 kw2_0_0
    have kw3_0_1 : w3.cell? ⟨w.heap.size, 1, none⟩ = some (.slice a n0 c) := cell_after hkw3 sw2_0 kw2_0_1
    have sw3_0 : w.heap.size < w3.heap.size := size_after hkw3 sw2_0
    have hBw3 : Below w.heap.size w w3 := (by repeat (first | exact HBw2.out | exact Below.refl _ _ | refine bl_alloc ?_ _ | refine bl_drewN ?_ _ | refine bl_trans (by assumption) ?_ | refine bl_set ?_ (by first | omega | (simp; done) | (simp; omega)) _))
    have HBw3 := Lib.hid hBw3
    clear hBw3 hcw3 hfw3 hbw3 hkw3 kw2_0_0 kw2_0_1 sw2_0
    go_wp2_with fail
    refine (toPuzzle_any a0 _ n0 f0 _ (HH.out.keep (by repeat (first | exact HBw3.out | exact Below.refl _ _ | refine bl_alloc ?_ _ | refine bl_drewN ?_ _ | refine bl_trans (by assumption) ?_ | refine bl_set ?_ (by first | omega | (simp; done) | (simp; omega)) _))) hn).mono ?_
    rintro e w4 ⟨u2, rfl, hO2, hbw4⟩
    obtain ⟨hcw4, hfw4⟩ := bcell hbw4
    have hzw4 := bsize hbw4
    (try simp only [World.size_alloc, World.size_setCell] at hzw4)
    have hkw4 : Below w3.heap.size w3 w4 := (by repeat (first | exact Below.refl _ _ | refine bl_alloc ?_ _ | refine bl_drewN ?_ _ | refine bl_trans (by assumption) ?_ | refine bl_set ?_ (by first | omega | (simp; done) | (simp; omega)) _))
    obtain ⟨a2, c2, rfl⟩ := hO2.toP.shape
    have O2 := Lib.hid hO2
    clear hO2
    have kw4_0_0 : w4.cell? ⟨w.heap.size, 0, none⟩ = some (.int .i64 a0) := cell_after hkw4 sw3_0 kw3_0_0
    have kw4_0_1 : w4.cell? ⟨w.heap.size, 1, none⟩ = some (.slice a n0 c) := cell_after hkw4 sw3_0 kw3_0_1
    have sw4_0 : w.heap.size < w4.heap.size := size_after hkw4 sw3_0
    have hBw4 : Below w.heap.size w w4 := (by repeat (first | exact HBw3.out | exact Below.refl _ _ | refine bl_alloc ?_ _ | refine bl_drewN ?_ _ | refine bl_trans (by assumption) ?_ | refine bl_set ?_ (by first | omega | (simp; done) | (simp; omega)) _))
    have HBw4 := Lib.hid hBw4
    clear hBw4 hcw4 hfw4 hbw4 hkw4 kw3_0_0 kw3_0_1 sw3_0
    go_wp2_with fail
    refine (impl_PuzzleText a0 _ n0 f0 _ (O2.out.toP.keep (by repeat (first | exact Below.refl _ _ | refine bl_alloc ?_ _ | refine bl_drewN ?_ _ | refine bl_trans (by assumption) ?_ | refine bl_set ?_ (by first | omega | (simp; done) | (simp; omega)) _))) (T0.out.below (by repeat (first | exact HBw4.out | exact Below.refl _ _ | refine bl_alloc ?_ _ | refine bl_drewN ?_ _ | refine bl_trans (by assumption) ?_ | refine bl_set ?_ (by first | omega | (simp; done) | (simp; omega)) _)))).mono ?_
    rintro e w5 ⟨rfl, hbw5⟩
    obtain ⟨hcw5, hfw5⟩ := bcell hbw5
    have hzw5 := bsize hbw5
    (try simp only [World.size_alloc, World.size_setCell] at hzw5)
    have hkw5 : Below w4.heap.size w4 w5 := (by repeat (first | exact Below.refl _ _ | refine bl_alloc ?_ _ | refine bl_drewN ?_ _ | refine bl_trans (by assumption) ?_ | refine bl_set ?_ (by first | omega | (simp; done) | (simp; omega)) _))
    have O2 := Lib.hid (O2.out.keep hkw5)
    have kw5_0_0 : w5.cell? ⟨w.heap.size, 0, none⟩ = some (.int .i64 a0) := cell_after hkw5 sw4_0 kw4_0_0
    have kw5_0_1 : w5.cell? ⟨w.heap.size, 1, none⟩ = some (.slice a n0 c) := cell_after hkw5 sw4_0 kw4_0_1
    have sw5_0 : w.heap.size < w5.heap.size := size_after hkw5 sw4_0
    have kw5_1_0 : w5.cell? ⟨w4.heap.size, 0, none⟩ = some (.int .i64 a0) := by rw [hcw5 _ _ (by first | (simp; done) | omega | (simp; omega))]; first | assumption | (simp [go_sem]; done) | (simp [go_sem, kw4_0_0, kw4_0_1]; done) | (simp [go_sem, *]; done)
    have kw5_1_1 : w5.cell? ⟨w4.heap.size, 1, none⟩ = some (.slice a2 n0 c2) := by rw [hcw5 _ _ (by first | (simp; done) | omega | (simp; omega))]; first | assumption | (simp [go_sem]; done) | (simp [go_sem, kw4_0_0, kw4_0_1]; done) | (simp [go_sem, *]; done)
    have sw5_1 : w4.heap.size < w5.heap.size := by first | omega | (simp at *; omega)
    have hBw5 : Below w.heap.size w w5 := (by repeat (first | exact HBw4.out | exact Below.refl _ _ | refine bl_alloc ?_ _ | refine bl_drewN ?_ _ | refine bl_trans (by assumption) ?_ | refine bl_set ?_ (by first | omega | (simp; done) | (simp; omega)) _))
    have HBw5 := Lib.hid hBw5
    clear hBw5 hcw5 hfw5 hbw5 hkw5 kw4_0_0 kw4_0_1 sw4_0
    go_wp2_with fail
    have hS1 := (⟨(by first | assumption | (simp [go_sem]; done) | (simp [go_sem, *]; done)), (by first | assumption | (simp [go_sem]; done) | (simp [go_sem, *]; done)), (by first | assumption | (simp [go_sem]; done) | (simp [go_sem, *]; done)), (by first | assumption | (simp [go_sem]; done) | (simp [go_sem, *]; done)), (by first | assumption | omega | (simp; done) | (simp; omega)), (by first | assumption | omega | (simp; done) | (simp; omega)), (by repeat (first | exact HBw5.out | exact Below.refl _ _ | refine bl_alloc ?_ _ | refine bl_drewN ?_ _ | refine bl_trans (by assumption) ?_ | refine bl_set ?_ (by first | omega | (simp; done) | (simp; omega)) _)), (by repeat (first | exact Below.refl _ _ | refine bl_alloc ?_ _ | refine bl_drewN ?_ _ | refine bl_trans (by assumption) ?_ | refine bl_set ?_ (by first | omega | (simp; done) | (simp; omega)) _))⟩ : w5.cell? ⟨w.heap.size, 0, none⟩ = some (.int .i64 a0) ∧ w5.cell? ⟨w.heap.size, 1, none⟩ = some (.slice a n0 c) ∧ w5.cell? ⟨w4.heap.size, 0, none⟩ = some (.int .i64 a0) ∧ w5.cell? ⟨w4.heap.size, 1, none⟩ = some (.slice a2 n0 c2) ∧ w.heap.size < w5.heap.size ∧ w4.heap.size < w5.heap.size ∧ Below w.heap.size w w5 ∧ Below w5.heap.size w5 w5)
    go_region_held3 (fun w' => w'.cell? ⟨w.heap.size, 0, none⟩ = some (.int .i64 a0) ∧ w'.cell? ⟨w.heap.size, 1, none⟩ = some (.slice a n0 c) ∧ w'.cell? ⟨w4.heap.size, 0, none⟩ = some (.int .i64 a0) ∧ w'.cell? ⟨w4.heap.size, 1, none⟩ = some (.slice a2 n0 c2) ∧ w.heap.size < w'.heap.size ∧ w4.heap.size < w'.heap.size ∧ Below w.heap.size w w' ∧ Below w5.heap.size w5 w') (first | exact SA2_2_after hbp2 (by assumption) | exact SA2_2_after hbp1 (by assumption) | exact SA2_2_after (below_drewN (Below.refl _ _) _) (by assumption) | exact SA2_2_after (Below.drew (Below.refl _ _)) (by assumption) | assumption) (first | (go_at_call 7; refine (toPuzzle_any a0 _ n0 f0 _ (HH.out.keep (SA2_2_b1 (w := w) (c := w5) (by assumption))) hn).mono ?_; rintro e p1 ⟨u3, rfl, hO3, hbp1⟩) | (go_at_call 9; refine (eqPuzzle_any a0 _ _ n0 f0 _ (O2.out.toP.keep (SA2_2_b2 (w := w) (c := w5) (by assumption))) hO3.toP).mono ?_; rintro e p2 ⟨rfl, hbp2⟩) | fail)
    rename_i hh1
    clear hS1 kw5_0_0 kw5_0_1 sw5_0 kw5_1_0 kw5_1_1 sw5_1
    obtain ⟨m1_0_0, m1_0_1, m1_1_0, m1_1_1, ms1_0, ms1_1, hm1, hk1⟩ := hh1
    have HM1 := Lib.hid hm1
    clear hm1 hk1
    go_wp2
    go_ret
    exact ⟨rfl, (by repeat (first | exact HM1.out | exact Below.refl _ _ | refine bl_alloc ?_ _ | refine bl_drewN ?_ _ | refine bl_trans (by assumption) ?_ | refine bl_set ?_ (by first | omega | (simp; done) | (simp; omega)) _))⟩
  · go_enter Tryd.func3, Tryd.ntmps3
    go_wp2_with fail
    refine (szPuzzle_any a0 _ n0 f0 _ (HH.out.keep (by repeat (first | exact Below.refl _ _ | refine bl_alloc ?_ _ | refine bl_drewN ?_ _ | refine bl_trans (by assumption) ?_ | refine bl_set ?_ (by first | omega | (simp; done) | (simp; omega)) _)))).mono ?_
    rintro e w1 ⟨rfl, hb1⟩
    rw [if_neg hn]
    go_wp2
    go_ret
    exact ⟨rfl, (by repeat (first | exact Below.refl _ _ | refine bl_alloc ?_ _ | refine bl_drewN ?_ _ | refine bl_trans hb1 ?_ | refine bl_set ?_ (by first | omega | (simp; done) | (simp; omega)) _))⟩

/-- The heap that the start-up code leaves meets the condition. -/
theorem door_met (os : Os) (args : Array Value) : laidMetH Tryd.prog Rows.fnExactPuzzleTextRow.laid ((World.doorLaid Tryd.prog 400 os).forCall (fun _ _ => 0) ⟨#[], args, []⟩).memory :=
  laidMetH_of_parts3 (fuel := 8) (laidMet_of_run' 8 (by kernel_rfl) (by kernel_rfl)) (by kernel_rfl) (by kernel_rfl)
theorem tab_of_laid {W : World} (h : laidMetH Tryd.prog Rows.fnExactPuzzleTextRow.laid W) : Tab W := by
  rw [MakeChecks.laidMetH_plain _ _ _ (by kernel_rfl)] at h
  exact Lib.tabIs_of_head (g := 1) (by kernel_rfl) (by kernel_rfl) Tryd.underlying96 Tryd.underlying82 (by kernel_rfl) (by kernel_rfl) (laidMet.tail (laidMet.tail h))
set_option maxRecDepth 100000 in
theorem lifted (os : Os) (started : os.Started) (H : Type) (enc : TypeId × Value → H) :
    ReturnsInHanded {} Tryd.checked os 3 .any (fun w args => (Rows.fnExactPuzzleTextSpec.pre enc Tryd.prog Tryd.f3 [] false w args ∧ laidMetH Tryd.prog Rows.fnExactPuzzleTextRow.laid w) ∧ sizedMet enc Tryd.prog Tryd.f3 (OpenSpec.ofChange Rows.fnExactPuzzleTextSpec) false w args) (Rows.fnExactPuzzleTextSpec.post enc Tryd.prog Tryd.f3 false true false false) := by
  refine returnsInHanded_of_change_and (C := Tryd.checked) (X := fun w _ => laidMetH Tryd.prog Rows.fnExactPuzzleTextRow.laid w) (fun _ _ _ hh h => h.of_heap hh) own started (by kernel_rfl) Tryd.func3
    (ChangeSpec.witness_shaped (enc := enc) (C := Tryd.checked) (os := os) (X := fun w _ => laidMetH Tryd.prog Rows.fnExactPuzzleTextRow.laid w) false (World.doorLaid Tryd.prog 400 os) #[.agg #[.int .i64 0, .slice none 0 0]] 8 rfl (World.shaped_of_RefB (by kernel_rfl) (by kernel_rfl)) (by kernel_rfl) (by kernel_rfl) (by kernel_rfl) (door_met os _)) ?_
  intro W base args ds gs before hval0 hW hcnd hsz hL _
  have hval : ∀ (j : Nat) t v, Tryd.f3.params[j]? = some t → args[j]? = some v → Value.okWide Tryd.prog W .any base t v := hval0
  have hW' := hW
  obtain ⟨p, q, hA0, hV, rfl, hfz, hnd⟩ := hW
  have hA : DataW.TrodAll enc Tryd.prog W 0 (fun _ => true) true Tryd.f3.params.toList args.toList ds p := hA0
  rw [Tryd.params3] at hA hval
  obtain ⟨v0, vs0, d0, ds0, p0, q0, hargs, rfl, rfl, h0, r0⟩ := trodAll_cons hA
  obtain ⟨rfl, rfl, rfl⟩ := trodAll_nil r0
  obtain rfl : args = #[v0] := by cases args; simp_all
  obtain ⟨rfl, rfl⟩ := trodVars_none hV
  have k0 := h0
  have lt0 : ∀ x ∈ p0, x.block < W.heap.size := by obtain ⟨m, hm⟩ := k0; exact DataW.trod_lt m _ _ _ hm
  obtain ⟨c0, v0c, y00, y01, m0, rfl, rfl, rfl, hy00, hy01⟩ := open_agg2 Tryd.underlying24 (by kernel_rfl) (by kernel_rfl) (hval 0 24 v0 rfl rfl) h0
  obtain ⟨a0, e00, rfl, w0⟩ := DataW.trod_int Tryd.underlying3 hy00
  simp at e00
  subst e00
  obtain ⟨n0, f0, hP0⟩ := open_clues hy01
  clear hA0 hval0
  refine (walk a0 v0c n0 f0 w0 W hP0 (tab_of_laid hL)).mono fun e W' ⟨he, bel⟩ => ?_
  subst he
  exact ⟨_, rfl, _, _, _, [], _, [], hW', trodAll_mk1 (shut_bool Tryd.underlying4 _), (trodAll_cons_mk (Below.trod laidOut (by kernel_rfl) (of_decide_eq_true (by kernel_rfl)) k0 bel lt0) trodAll_mk0), rfl, bel.frame _, fun h => by cases h⟩

theorem over : Rows.fnExactPuzzleTextRow.holds Tryd.pinned (OpenSpec.ofChange Rows.fnExactPuzzleTextSpec) :=
  OpenClaim.holds_of_wide 3 Tryd.f3 rfl rfl rfl rfl rfl rfl rfl ⟨rfl, rfl, rfl, rfl, rfl⟩ rfl rfl rfl rfl rfl (by kernel_rfl) Tryd.func3 (by simp only [joinedFacts, make, lifts, may, Bool.and_true]; kernel_rfl)
    (of_decide_eq_true (by kernel_rfl)) (by unfold Func.isWrapper; first | (rw [if_pos (by decide +kernel)]; kernel_rfl) | (rw [if_neg (by decide +kernel)]; exact ⟨rfl, rfl⟩))
    (fun os started H enc _ => lifted os started H enc)

theorem bare : Rows.FnExactPuzzleTextSaid := over
theorem proved : Rows.FnExactPuzzleTextCardSaid :=
  Claim7.holds_tied_plain_at .later [] _ _ _ _
    bare (fun _ h => by cases h) (by kernel_rfl) (fun _ h => by cases h) fnExactPuzzleText_row_tie rfl ⟨rfl, rfl⟩ (by kernel_rfl) rfl
    (fun f fn hf hfn => by
      obtain rfl : f = 3 := Option.some.inj ((show Tryd.prog.funcNamed Rows.fnExactPuzzleTextRow.func = some 3 by kernel_rfl).symm.trans hf) |>.symm
      obtain rfl : fn = Tryd.f3 := (Option.some.inj (Tryd.func3.symm.trans hfn)).symm
      exact ⟨by kernel_rfl, fun j t ht => by
        rw [Tryd.params3] at ht
        have hm : t ∈ [24] := by simpa using Array.mem_of_getElem? ht
        have hall : ([24].all fun u => !Tryd.prog.wantsStandIn u) = true := by kernel_rfl
        exact (show Tryd.prog.wantsStandIn t = false by simpa using List.all_eq_true.1 hall t hm)⟩)
    (by kernel_rfl)
#print axioms proved
end Go.Proofs.YtahcfjpplkemdaaDoor.fnExactPuzzleText

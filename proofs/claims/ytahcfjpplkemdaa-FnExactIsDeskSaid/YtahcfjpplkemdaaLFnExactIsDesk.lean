/- The law 'FnExactIsDesk' holds for every input. -/
import Derived.Test.YtahcfjpplkemdaaDK2
import Derived.Test.YtahcfjpplkemdaaO
import Derived.ProofKit
import Derived.OpenShut
import Derived.ShutString
import Derived.ChangeOld
import Derived.Lib.SmallJoins
namespace Go.Proofs.Ytahcfjpplkemdaa.fnExactIsDesk
open Go.ChangeShapes Go.WideShapes Go.ChangeAt Go.RowKit Go.Joins
open Go.ChangeMaps (open_string shut_string)
set_option linter.unusedVariables false
set_option linter.unusedSimpArgs false
theorem own : ownKnob Try.prog.godebug = none := by kernel_rfl
theorem laidOut : laidOutB Try.prog = true := by kernel_rfl
theorem SA12_12_after {w c u v : World} {A0 A1 : Nat} {x00 x01 x02 x03 x04 x05 x06 x07 x08 x09 x010 x011 x10 x11 x12 x13 x14 x15 x16 x17 x18 x19 x110 x111 : Value} (hb : Below u.heap.size u v) (h : u.cell? ⟨A0, 0, none⟩ = some x00 ∧ u.cell? ⟨A0, 1, none⟩ = some x01 ∧ u.cell? ⟨A0, 2, none⟩ = some x02 ∧ u.cell? ⟨A0, 3, none⟩ = some x03 ∧ u.cell? ⟨A0, 4, none⟩ = some x04 ∧ u.cell? ⟨A0, 5, none⟩ = some x05 ∧ u.cell? ⟨A0, 6, none⟩ = some x06 ∧ u.cell? ⟨A0, 7, none⟩ = some x07 ∧ u.cell? ⟨A0, 8, none⟩ = some x08 ∧ u.cell? ⟨A0, 9, none⟩ = some x09 ∧ u.cell? ⟨A0, 10, none⟩ = some x010 ∧ u.cell? ⟨A0, 11, none⟩ = some x011 ∧ u.cell? ⟨A1, 0, none⟩ = some x10 ∧ u.cell? ⟨A1, 1, none⟩ = some x11 ∧ u.cell? ⟨A1, 2, none⟩ = some x12 ∧ u.cell? ⟨A1, 3, none⟩ = some x13 ∧ u.cell? ⟨A1, 4, none⟩ = some x14 ∧ u.cell? ⟨A1, 5, none⟩ = some x15 ∧ u.cell? ⟨A1, 6, none⟩ = some x16 ∧ u.cell? ⟨A1, 7, none⟩ = some x17 ∧ u.cell? ⟨A1, 8, none⟩ = some x18 ∧ u.cell? ⟨A1, 9, none⟩ = some x19 ∧ u.cell? ⟨A1, 10, none⟩ = some x110 ∧ u.cell? ⟨A1, 11, none⟩ = some x111 ∧ A0 < u.heap.size ∧ A1 < u.heap.size ∧ Below w.heap.size w u ∧ Below c.heap.size c u) : v.cell? ⟨A0, 0, none⟩ = some x00 ∧ v.cell? ⟨A0, 1, none⟩ = some x01 ∧ v.cell? ⟨A0, 2, none⟩ = some x02 ∧ v.cell? ⟨A0, 3, none⟩ = some x03 ∧ v.cell? ⟨A0, 4, none⟩ = some x04 ∧ v.cell? ⟨A0, 5, none⟩ = some x05 ∧ v.cell? ⟨A0, 6, none⟩ = some x06 ∧ v.cell? ⟨A0, 7, none⟩ = some x07 ∧ v.cell? ⟨A0, 8, none⟩ = some x08 ∧ v.cell? ⟨A0, 9, none⟩ = some x09 ∧ v.cell? ⟨A0, 10, none⟩ = some x010 ∧ v.cell? ⟨A0, 11, none⟩ = some x011 ∧ v.cell? ⟨A1, 0, none⟩ = some x10 ∧ v.cell? ⟨A1, 1, none⟩ = some x11 ∧ v.cell? ⟨A1, 2, none⟩ = some x12 ∧ v.cell? ⟨A1, 3, none⟩ = some x13 ∧ v.cell? ⟨A1, 4, none⟩ = some x14 ∧ v.cell? ⟨A1, 5, none⟩ = some x15 ∧ v.cell? ⟨A1, 6, none⟩ = some x16 ∧ v.cell? ⟨A1, 7, none⟩ = some x17 ∧ v.cell? ⟨A1, 8, none⟩ = some x18 ∧ v.cell? ⟨A1, 9, none⟩ = some x19 ∧ v.cell? ⟨A1, 10, none⟩ = some x110 ∧ v.cell? ⟨A1, 11, none⟩ = some x111 ∧ A0 < v.heap.size ∧ A1 < v.heap.size ∧ Below w.heap.size w v ∧ Below c.heap.size c v := by
  obtain ⟨h0, h1, h2, h3, h4, h5, h6, h7, h8, h9, h10, h11, h12, h13, h14, h15, h16, h17, h18, h19, h20, h21, h22, h23, h24, h25, h26, h27⟩ := h
  exact ⟨by rw [(bcell hb).1 _ _ h24]; exact h0, by rw [(bcell hb).1 _ _ h24]; exact h1, by rw [(bcell hb).1 _ _ h24]; exact h2, by rw [(bcell hb).1 _ _ h24]; exact h3, by rw [(bcell hb).1 _ _ h24]; exact h4, by rw [(bcell hb).1 _ _ h24]; exact h5, by rw [(bcell hb).1 _ _ h24]; exact h6, by rw [(bcell hb).1 _ _ h24]; exact h7, by rw [(bcell hb).1 _ _ h24]; exact h8, by rw [(bcell hb).1 _ _ h24]; exact h9, by rw [(bcell hb).1 _ _ h24]; exact h10, by rw [(bcell hb).1 _ _ h24]; exact h11, by rw [(bcell hb).1 _ _ h25]; exact h12, by rw [(bcell hb).1 _ _ h25]; exact h13, by rw [(bcell hb).1 _ _ h25]; exact h14, by rw [(bcell hb).1 _ _ h25]; exact h15, by rw [(bcell hb).1 _ _ h25]; exact h16, by rw [(bcell hb).1 _ _ h25]; exact h17, by rw [(bcell hb).1 _ _ h25]; exact h18, by rw [(bcell hb).1 _ _ h25]; exact h19, by rw [(bcell hb).1 _ _ h25]; exact h20, by rw [(bcell hb).1 _ _ h25]; exact h21, by rw [(bcell hb).1 _ _ h25]; exact h22, by rw [(bcell hb).1 _ _ h25]; exact h23, Nat.lt_of_lt_of_le h24 hb.size, Nat.lt_of_lt_of_le h25 hb.size, bl_trans hb h26, bl_trans hb h27⟩
theorem SA12_12_b1 {w c u : World} {A0 A1 : Nat} {x00 x01 x02 x03 x04 x05 x06 x07 x08 x09 x010 x011 x10 x11 x12 x13 x14 x15 x16 x17 x18 x19 x110 x111 : Value} (h : u.cell? ⟨A0, 0, none⟩ = some x00 ∧ u.cell? ⟨A0, 1, none⟩ = some x01 ∧ u.cell? ⟨A0, 2, none⟩ = some x02 ∧ u.cell? ⟨A0, 3, none⟩ = some x03 ∧ u.cell? ⟨A0, 4, none⟩ = some x04 ∧ u.cell? ⟨A0, 5, none⟩ = some x05 ∧ u.cell? ⟨A0, 6, none⟩ = some x06 ∧ u.cell? ⟨A0, 7, none⟩ = some x07 ∧ u.cell? ⟨A0, 8, none⟩ = some x08 ∧ u.cell? ⟨A0, 9, none⟩ = some x09 ∧ u.cell? ⟨A0, 10, none⟩ = some x010 ∧ u.cell? ⟨A0, 11, none⟩ = some x011 ∧ u.cell? ⟨A1, 0, none⟩ = some x10 ∧ u.cell? ⟨A1, 1, none⟩ = some x11 ∧ u.cell? ⟨A1, 2, none⟩ = some x12 ∧ u.cell? ⟨A1, 3, none⟩ = some x13 ∧ u.cell? ⟨A1, 4, none⟩ = some x14 ∧ u.cell? ⟨A1, 5, none⟩ = some x15 ∧ u.cell? ⟨A1, 6, none⟩ = some x16 ∧ u.cell? ⟨A1, 7, none⟩ = some x17 ∧ u.cell? ⟨A1, 8, none⟩ = some x18 ∧ u.cell? ⟨A1, 9, none⟩ = some x19 ∧ u.cell? ⟨A1, 10, none⟩ = some x110 ∧ u.cell? ⟨A1, 11, none⟩ = some x111 ∧ A0 < u.heap.size ∧ A1 < u.heap.size ∧ Below w.heap.size w u ∧ Below c.heap.size c u) : Below w.heap.size w u := h.2.2.2.2.2.2.2.2.2.2.2.2.2.2.2.2.2.2.2.2.2.2.2.2.2.2.1
theorem SA12_12_b2 {w c u : World} {A0 A1 : Nat} {x00 x01 x02 x03 x04 x05 x06 x07 x08 x09 x010 x011 x10 x11 x12 x13 x14 x15 x16 x17 x18 x19 x110 x111 : Value} (h : u.cell? ⟨A0, 0, none⟩ = some x00 ∧ u.cell? ⟨A0, 1, none⟩ = some x01 ∧ u.cell? ⟨A0, 2, none⟩ = some x02 ∧ u.cell? ⟨A0, 3, none⟩ = some x03 ∧ u.cell? ⟨A0, 4, none⟩ = some x04 ∧ u.cell? ⟨A0, 5, none⟩ = some x05 ∧ u.cell? ⟨A0, 6, none⟩ = some x06 ∧ u.cell? ⟨A0, 7, none⟩ = some x07 ∧ u.cell? ⟨A0, 8, none⟩ = some x08 ∧ u.cell? ⟨A0, 9, none⟩ = some x09 ∧ u.cell? ⟨A0, 10, none⟩ = some x010 ∧ u.cell? ⟨A0, 11, none⟩ = some x011 ∧ u.cell? ⟨A1, 0, none⟩ = some x10 ∧ u.cell? ⟨A1, 1, none⟩ = some x11 ∧ u.cell? ⟨A1, 2, none⟩ = some x12 ∧ u.cell? ⟨A1, 3, none⟩ = some x13 ∧ u.cell? ⟨A1, 4, none⟩ = some x14 ∧ u.cell? ⟨A1, 5, none⟩ = some x15 ∧ u.cell? ⟨A1, 6, none⟩ = some x16 ∧ u.cell? ⟨A1, 7, none⟩ = some x17 ∧ u.cell? ⟨A1, 8, none⟩ = some x18 ∧ u.cell? ⟨A1, 9, none⟩ = some x19 ∧ u.cell? ⟨A1, 10, none⟩ = some x110 ∧ u.cell? ⟨A1, 11, none⟩ = some x111 ∧ A0 < u.heap.size ∧ A1 < u.heap.size ∧ Below w.heap.size w u ∧ Below c.heap.size c u) : Below c.heap.size c u := h.2.2.2.2.2.2.2.2.2.2.2.2.2.2.2.2.2.2.2.2.2.2.2.2.2.2.2

set_option maxHeartbeats 1000000 in
theorem walk (d0 : Int) (d1 : Int) (d2 : Int) (d3 : Int) (d4 : Int) (d5 : Int) (d6 : Int) (d7 : Int) (d8 : Int) (d9 : Int) (d10 : Int) (v0c : Value) (n0 : Nat) (f0 : Nat → Int) (wd0 : (Lit.int .i64 d0).wf = true) (wd1 : (Lit.int .i64 d1).wf = true) (wd2 : (Lit.int .i64 d2).wf = true) (wd3 : (Lit.int .i64 d3).wf = true) (wd4 : (Lit.int .i64 d4).wf = true) (wd5 : (Lit.int .i64 d5).wf = true) (wd6 : (Lit.int .i64 d6).wf = true) (wd7 : (Lit.int .i64 d7).wf = true) (wd8 : (Lit.int .i64 d8).wf = true) (wd9 : (Lit.int .i64 d9).wf = true) (wd10 : (Lit.int .i64 d10).wf = true) (w : World) (hP0 : PRow w v0c n0 f0) :
    Calls Try.prog 4 #[.agg #[.int .i64 d0, .int .i64 d1, .int .i64 d2, .int .i64 d3, v0c, .int .i64 d4, .int .i64 d5, .int .i64 d6, .int .i64 d7, .int .i64 d8, .int .i64 d9, .int .i64 d10]] w fun e w' => e = .returned (.bool true) ∧ Below w.heap.size w w' := by
  have HH := Lib.hid hP0
  clear hP0
  obtain ⟨a, c, hv⟩ := HH.out.shape
  subst hv
  by_cases hn : n0 ≤ 1048576
  · go_enter Try.func4, Try.ntmps4
    go_wp2_with fail
    refine (szDesk_any d0 d1 d2 d3 d4 d5 d6 d7 d8 d9 d10 _ n0 f0 _ (HH.out.keep (by repeat (first | exact Below.refl _ _ | refine bl_alloc ?_ _ | refine bl_drewN ?_ _ | refine bl_trans (by assumption) ?_ | refine bl_set ?_ (by first | omega | (simp; done) | (simp; omega)) _)))).mono ?_
    rintro e w1 ⟨rfl, hbw1⟩
    obtain ⟨hcw1, hfw1⟩ := bcell hbw1
    have hzw1 := bsize hbw1
    (try simp only [World.size_alloc, World.size_setCell] at hzw1)
    have kw1_0_0 : w1.cell? ⟨w.heap.size, 0, none⟩ = some (.int .i64 d0) := by rw [hcw1 _ _ (by first | (simp; done) | omega | (simp; omega))]; first | assumption | (simp [go_sem]; done) | (simp [go_sem]; done) | (simp [go_sem, *]; done)
    have kw1_0_1 : w1.cell? ⟨w.heap.size, 1, none⟩ = some (.int .i64 d1) := by rw [hcw1 _ _ (by first | (simp; done) | omega | (simp; omega))]; first | assumption | (simp [go_sem]; done) | (simp [go_sem]; done) | (simp [go_sem, *]; done)
    have kw1_0_2 : w1.cell? ⟨w.heap.size, 2, none⟩ = some (.int .i64 d2) := by rw [hcw1 _ _ (by first | (simp; done) | omega | (simp; omega))]; first | assumption | (simp [go_sem]; done) | (simp [go_sem]; done) | (simp [go_sem, *]; done)
    have kw1_0_3 : w1.cell? ⟨w.heap.size, 3, none⟩ = some (.int .i64 d3) := by rw [hcw1 _ _ (by first | (simp; done) | omega | (simp; omega))]; first | assumption | (simp [go_sem]; done) | (simp [go_sem]; done) | (simp [go_sem, *]; done)
    have kw1_0_4 : w1.cell? ⟨w.heap.size, 4, none⟩ = some (.slice a n0 c) := by rw [hcw1 _ _ (by first | (simp; done) | omega | (simp; omega))]; first | assumption | (simp [go_sem]; done) | (simp [go_sem]; done) | (simp [go_sem, *]; done)
    have kw1_0_5 : w1.cell? ⟨w.heap.size, 5, none⟩ = some (.int .i64 d4) := by rw [hcw1 _ _ (by first | (simp; done) | omega | (simp; omega))]; first | assumption | (simp [go_sem]; done) | (simp [go_sem]; done) | (simp [go_sem, *]; done)
    have kw1_0_6 : w1.cell? ⟨w.heap.size, 6, none⟩ = some (.int .i64 d5) := by rw [hcw1 _ _ (by first | (simp; done) | omega | (simp; omega))]; first | assumption | (simp [go_sem]; done) | (simp [go_sem]; done) | (simp [go_sem, *]; done)
    have kw1_0_7 : w1.cell? ⟨w.heap.size, 7, none⟩ = some (.int .i64 d6) := by rw [hcw1 _ _ (by first | (simp; done) | omega | (simp; omega))]; first | assumption | (simp [go_sem]; done) | (simp [go_sem]; done) | (simp [go_sem, *]; done)
    have kw1_0_8 : w1.cell? ⟨w.heap.size, 8, none⟩ = some (.int .i64 d7) := by rw [hcw1 _ _ (by first | (simp; done) | omega | (simp; omega))]; first | assumption | (simp [go_sem]; done) | (simp [go_sem]; done) | (simp [go_sem, *]; done)
    have kw1_0_9 : w1.cell? ⟨w.heap.size, 9, none⟩ = some (.int .i64 d8) := by rw [hcw1 _ _ (by first | (simp; done) | omega | (simp; omega))]; first | assumption | (simp [go_sem]; done) | (simp [go_sem]; done) | (simp [go_sem, *]; done)
    have kw1_0_10 : w1.cell? ⟨w.heap.size, 10, none⟩ = some (.int .i64 d9) := by rw [hcw1 _ _ (by first | (simp; done) | omega | (simp; omega))]; first | assumption | (simp [go_sem]; done) | (simp [go_sem]; done) | (simp [go_sem, *]; done)
    have kw1_0_11 : w1.cell? ⟨w.heap.size, 11, none⟩ = some (.int .i64 d10) := by rw [hcw1 _ _ (by first | (simp; done) | omega | (simp; omega))]; first | assumption | (simp [go_sem]; done) | (simp [go_sem]; done) | (simp [go_sem, *]; done)
    have sw1_0 : w.heap.size < w1.heap.size := by first | omega | (simp at *; omega)
    have hBw1 : Below w.heap.size w w1 := (by repeat (first | exact Below.refl _ _ | refine bl_alloc ?_ _ | refine bl_drewN ?_ _ | refine bl_trans (by assumption) ?_ | refine bl_set ?_ (by first | omega | (simp; done) | (simp; omega)) _))
    have HBw1 := Lib.hid hBw1
    clear hBw1 hcw1 hfw1 hbw1
    rw [if_pos hn]
    go_wp2_with fail
    refine (toDesk_any d0 d1 d2 d3 d4 d5 d6 d7 d8 d9 d10 _ n0 f0 _ (HH.out.keep (by repeat (first | exact HBw1.out | exact Below.refl _ _ | refine bl_alloc ?_ _ | refine bl_drewN ?_ _ | refine bl_trans (by assumption) ?_ | refine bl_set ?_ (by first | omega | (simp; done) | (simp; omega)) _))) hn).mono ?_
    rintro e w2 ⟨u1, rfl, hO1, hbw2⟩
    obtain ⟨hcw2, hfw2⟩ := bcell hbw2
    have hzw2 := bsize hbw2
    (try simp only [World.size_alloc, World.size_setCell] at hzw2)
    have hkw2 : Below w1.heap.size w1 w2 := (by repeat (first | exact Below.refl _ _ | refine bl_alloc ?_ _ | refine bl_drewN ?_ _ | refine bl_trans (by assumption) ?_ | refine bl_set ?_ (by first | omega | (simp; done) | (simp; omega)) _))
    obtain ⟨a1, c1, rfl⟩ := hO1.toP.shape
    have O1 := Lib.hid hO1
    clear hO1
    have kw2_0_0 : w2.cell? ⟨w.heap.size, 0, none⟩ = some (.int .i64 d0) := cell_after hkw2 sw1_0 kw1_0_0
    have kw2_0_1 : w2.cell? ⟨w.heap.size, 1, none⟩ = some (.int .i64 d1) := cell_after hkw2 sw1_0 kw1_0_1
    have kw2_0_2 : w2.cell? ⟨w.heap.size, 2, none⟩ = some (.int .i64 d2) := cell_after hkw2 sw1_0 kw1_0_2
    have kw2_0_3 : w2.cell? ⟨w.heap.size, 3, none⟩ = some (.int .i64 d3) := cell_after hkw2 sw1_0 kw1_0_3
    have kw2_0_4 : w2.cell? ⟨w.heap.size, 4, none⟩ = some (.slice a n0 c) := cell_after hkw2 sw1_0 kw1_0_4
    have kw2_0_5 : w2.cell? ⟨w.heap.size, 5, none⟩ = some (.int .i64 d4) := cell_after hkw2 sw1_0 kw1_0_5
    have kw2_0_6 : w2.cell? ⟨w.heap.size, 6, none⟩ = some (.int .i64 d5) := cell_after hkw2 sw1_0 kw1_0_6
    have kw2_0_7 : w2.cell? ⟨w.heap.size, 7, none⟩ = some (.int .i64 d6) := cell_after hkw2 sw1_0 kw1_0_7
    have kw2_0_8 : w2.cell? ⟨w.heap.size, 8, none⟩ = some (.int .i64 d7) := cell_after hkw2 sw1_0 kw1_0_8
    have kw2_0_9 : w2.cell? ⟨w.heap.size, 9, none⟩ = some (.int .i64 d8) := cell_after hkw2 sw1_0 kw1_0_9
    have kw2_0_10 : w2.cell? ⟨w.heap.size, 10, none⟩ = some (.int .i64 d9) := cell_after hkw2 sw1_0 kw1_0_10
    have kw2_0_11 : w2.cell? ⟨w.heap.size, 11, none⟩ = some (.int .i64 d10) := cell_after hkw2 sw1_0 kw1_0_11
    have sw2_0 : w.heap.size < w2.heap.size := size_after hkw2 sw1_0
    have hBw2 : Below w.heap.size w w2 := (by repeat (first | exact HBw1.out | exact Below.refl _ _ | refine bl_alloc ?_ _ | refine bl_drewN ?_ _ | refine bl_trans (by assumption) ?_ | refine bl_set ?_ (by first | omega | (simp; done) | (simp; omega)) _))
    have HBw2 := Lib.hid hBw2
    clear hBw2 hcw2 hfw2 hbw2 hkw2 kw1_0_0 kw1_0_1 kw1_0_2 kw1_0_3 kw1_0_4 kw1_0_5 kw1_0_6 kw1_0_7 kw1_0_8 kw1_0_9 kw1_0_10 kw1_0_11 sw1_0
    go_wp2_with fail
    refine (spec_IsDesk d0 d1 d2 d3 d4 d5 d6 d7 d8 d9 d10 _ n0 f0 _ O1.out.toP).mono ?_
    rintro e w3 ⟨rfl, hbw3⟩
    obtain ⟨hcw3, hfw3⟩ := bcell hbw3
    have hzw3 := bsize hbw3
    (try simp only [World.size_alloc, World.size_setCell] at hzw3)
    have hkw3 : Below w2.heap.size w2 w3 := (by repeat (first | exact Below.refl _ _ | refine bl_alloc ?_ _ | refine bl_drewN ?_ _ | refine bl_trans (by assumption) ?_ | refine bl_set ?_ (by first | omega | (simp; done) | (simp; omega)) _))
    have kw3_0_0 : w3.cell? ⟨w.heap.size, 0, none⟩ = some (.int .i64 d0) := cell_after hkw3 sw2_0 kw2_0_0
    have kw3_0_1 : w3.cell? ⟨w.heap.size, 1, none⟩ = some (.int .i64 d1) := cell_after hkw3 sw2_0 kw2_0_1
    have kw3_0_2 : w3.cell? ⟨w.heap.size, 2, none⟩ = some (.int .i64 d2) := cell_after hkw3 sw2_0 kw2_0_2
    have kw3_0_3 : w3.cell? ⟨w.heap.size, 3, none⟩ = some (.int .i64 d3) := cell_after hkw3 sw2_0 kw2_0_3
    have kw3_0_4 : w3.cell? ⟨w.heap.size, 4, none⟩ = some (.slice a n0 c) := cell_after hkw3 sw2_0 kw2_0_4
    have kw3_0_5 : w3.cell? ⟨w.heap.size, 5, none⟩ = some (.int .i64 d4) := cell_after hkw3 sw2_0 kw2_0_5
    have kw3_0_6 : w3.cell? ⟨w.heap.size, 6, none⟩ = some (.int .i64 d5) := cell_after hkw3 sw2_0 kw2_0_6
    have kw3_0_7 : w3.cell? ⟨w.heap.size, 7, none⟩ = some (.int .i64 d6) := cell_after hkw3 sw2_0 kw2_0_7
    have kw3_0_8 : w3.cell? ⟨w.heap.size, 8, none⟩ = some (.int .i64 d7) := cell_after hkw3 sw2_0 kw2_0_8
    have kw3_0_9 : w3.cell? ⟨w.heap.size, 9, none⟩ = some (.int .i64 d8) := cell_after hkw3 sw2_0 kw2_0_9
    have kw3_0_10 : w3.cell? ⟨w.heap.size, 10, none⟩ = some (.int .i64 d9) := cell_after hkw3 sw2_0 kw2_0_10
    have kw3_0_11 : w3.cell? ⟨w.heap.size, 11, none⟩ = some (.int .i64 d10) := cell_after hkw3 sw2_0 kw2_0_11
    have sw3_0 : w.heap.size < w3.heap.size := size_after hkw3 sw2_0
    have hBw3 : Below w.heap.size w w3 := (by repeat (first | exact HBw2.out | exact Below.refl _ _ | refine bl_alloc ?_ _ | refine bl_drewN ?_ _ | refine bl_trans (by assumption) ?_ | refine bl_set ?_ (by first | omega | (simp; done) | (simp; omega)) _))
    have HBw3 := Lib.hid hBw3
    clear hBw3 hcw3 hfw3 hbw3 hkw3 kw2_0_0 kw2_0_1 kw2_0_2 kw2_0_3 kw2_0_4 kw2_0_5 kw2_0_6 kw2_0_7 kw2_0_8 kw2_0_9 kw2_0_10 kw2_0_11 sw2_0
    go_wp2_with fail
    refine (toDesk_any d0 d1 d2 d3 d4 d5 d6 d7 d8 d9 d10 _ n0 f0 _ (HH.out.keep (by repeat (first | exact HBw3.out | exact Below.refl _ _ | refine bl_alloc ?_ _ | refine bl_drewN ?_ _ | refine bl_trans (by assumption) ?_ | refine bl_set ?_ (by first | omega | (simp; done) | (simp; omega)) _))) hn).mono ?_
    rintro e w4 ⟨u2, rfl, hO2, hbw4⟩
    obtain ⟨hcw4, hfw4⟩ := bcell hbw4
    have hzw4 := bsize hbw4
    (try simp only [World.size_alloc, World.size_setCell] at hzw4)
    have hkw4 : Below w3.heap.size w3 w4 := (by repeat (first | exact Below.refl _ _ | refine bl_alloc ?_ _ | refine bl_drewN ?_ _ | refine bl_trans (by assumption) ?_ | refine bl_set ?_ (by first | omega | (simp; done) | (simp; omega)) _))
    obtain ⟨a2, c2, rfl⟩ := hO2.toP.shape
    have O2 := Lib.hid hO2
    clear hO2
    have kw4_0_0 : w4.cell? ⟨w.heap.size, 0, none⟩ = some (.int .i64 d0) := cell_after hkw4 sw3_0 kw3_0_0
    have kw4_0_1 : w4.cell? ⟨w.heap.size, 1, none⟩ = some (.int .i64 d1) := cell_after hkw4 sw3_0 kw3_0_1
    have kw4_0_2 : w4.cell? ⟨w.heap.size, 2, none⟩ = some (.int .i64 d2) := cell_after hkw4 sw3_0 kw3_0_2
    have kw4_0_3 : w4.cell? ⟨w.heap.size, 3, none⟩ = some (.int .i64 d3) := cell_after hkw4 sw3_0 kw3_0_3
    have kw4_0_4 : w4.cell? ⟨w.heap.size, 4, none⟩ = some (.slice a n0 c) := cell_after hkw4 sw3_0 kw3_0_4
    have kw4_0_5 : w4.cell? ⟨w.heap.size, 5, none⟩ = some (.int .i64 d4) := cell_after hkw4 sw3_0 kw3_0_5
    have kw4_0_6 : w4.cell? ⟨w.heap.size, 6, none⟩ = some (.int .i64 d5) := cell_after hkw4 sw3_0 kw3_0_6
    have kw4_0_7 : w4.cell? ⟨w.heap.size, 7, none⟩ = some (.int .i64 d6) := cell_after hkw4 sw3_0 kw3_0_7
    have kw4_0_8 : w4.cell? ⟨w.heap.size, 8, none⟩ = some (.int .i64 d7) := cell_after hkw4 sw3_0 kw3_0_8
    have kw4_0_9 : w4.cell? ⟨w.heap.size, 9, none⟩ = some (.int .i64 d8) := cell_after hkw4 sw3_0 kw3_0_9
    have kw4_0_10 : w4.cell? ⟨w.heap.size, 10, none⟩ = some (.int .i64 d9) := cell_after hkw4 sw3_0 kw3_0_10
    have kw4_0_11 : w4.cell? ⟨w.heap.size, 11, none⟩ = some (.int .i64 d10) := cell_after hkw4 sw3_0 kw3_0_11
    have sw4_0 : w.heap.size < w4.heap.size := size_after hkw4 sw3_0
    have hBw4 : Below w.heap.size w w4 := (by repeat (first | exact HBw3.out | exact Below.refl _ _ | refine bl_alloc ?_ _ | refine bl_drewN ?_ _ | refine bl_trans (by assumption) ?_ | refine bl_set ?_ (by first | omega | (simp; done) | (simp; omega)) _))
    have HBw4 := Lib.hid hBw4
    clear hBw4 hcw4 hfw4 hbw4 hkw4 kw3_0_0 kw3_0_1 kw3_0_2 kw3_0_3 kw3_0_4 kw3_0_5 kw3_0_6 kw3_0_7 kw3_0_8 kw3_0_9 kw3_0_10 kw3_0_11 sw3_0
    go_wp2_with fail
    refine (impl_IsDesk d0 d1 d2 d3 d4 d5 d6 d7 d8 d9 d10 _ n0 f0 _ (O2.out.toP.keep (by repeat (first | exact Below.refl _ _ | refine bl_alloc ?_ _ | refine bl_drewN ?_ _ | refine bl_trans (by assumption) ?_ | refine bl_set ?_ (by first | omega | (simp; done) | (simp; omega)) _)))).mono ?_
    rintro e w5 ⟨rfl, hbw5⟩
    obtain ⟨hcw5, hfw5⟩ := bcell hbw5
    have hzw5 := bsize hbw5
    (try simp only [World.size_alloc, World.size_setCell] at hzw5)
    have hkw5 : Below w4.heap.size w4 w5 := (by repeat (first | exact Below.refl _ _ | refine bl_alloc ?_ _ | refine bl_drewN ?_ _ | refine bl_trans (by assumption) ?_ | refine bl_set ?_ (by first | omega | (simp; done) | (simp; omega)) _))
    have O2 := Lib.hid (O2.out.keep hkw5)
    have kw5_0_0 : w5.cell? ⟨w.heap.size, 0, none⟩ = some (.int .i64 d0) := cell_after hkw5 sw4_0 kw4_0_0
    have kw5_0_1 : w5.cell? ⟨w.heap.size, 1, none⟩ = some (.int .i64 d1) := cell_after hkw5 sw4_0 kw4_0_1
    have kw5_0_2 : w5.cell? ⟨w.heap.size, 2, none⟩ = some (.int .i64 d2) := cell_after hkw5 sw4_0 kw4_0_2
    have kw5_0_3 : w5.cell? ⟨w.heap.size, 3, none⟩ = some (.int .i64 d3) := cell_after hkw5 sw4_0 kw4_0_3
    have kw5_0_4 : w5.cell? ⟨w.heap.size, 4, none⟩ = some (.slice a n0 c) := cell_after hkw5 sw4_0 kw4_0_4
    have kw5_0_5 : w5.cell? ⟨w.heap.size, 5, none⟩ = some (.int .i64 d4) := cell_after hkw5 sw4_0 kw4_0_5
    have kw5_0_6 : w5.cell? ⟨w.heap.size, 6, none⟩ = some (.int .i64 d5) := cell_after hkw5 sw4_0 kw4_0_6
    have kw5_0_7 : w5.cell? ⟨w.heap.size, 7, none⟩ = some (.int .i64 d6) := cell_after hkw5 sw4_0 kw4_0_7
    have kw5_0_8 : w5.cell? ⟨w.heap.size, 8, none⟩ = some (.int .i64 d7) := cell_after hkw5 sw4_0 kw4_0_8
    have kw5_0_9 : w5.cell? ⟨w.heap.size, 9, none⟩ = some (.int .i64 d8) := cell_after hkw5 sw4_0 kw4_0_9
    have kw5_0_10 : w5.cell? ⟨w.heap.size, 10, none⟩ = some (.int .i64 d9) := cell_after hkw5 sw4_0 kw4_0_10
    have kw5_0_11 : w5.cell? ⟨w.heap.size, 11, none⟩ = some (.int .i64 d10) := cell_after hkw5 sw4_0 kw4_0_11
    have sw5_0 : w.heap.size < w5.heap.size := size_after hkw5 sw4_0
    have kw5_1_0 : w5.cell? ⟨w4.heap.size, 0, none⟩ = some (.int .i64 d0) := by rw [hcw5 _ _ (by first | (simp; done) | omega | (simp; omega))]; first | assumption | (simp [go_sem]; done) | (simp [go_sem, kw4_0_0, kw4_0_1, kw4_0_2, kw4_0_3, kw4_0_4, kw4_0_5, kw4_0_6, kw4_0_7, kw4_0_8, kw4_0_9, kw4_0_10, kw4_0_11]; done) | (simp [go_sem, *]; done)
    have kw5_1_1 : w5.cell? ⟨w4.heap.size, 1, none⟩ = some (.int .i64 d1) := by rw [hcw5 _ _ (by first | (simp; done) | omega | (simp; omega))]; first | assumption | (simp [go_sem]; done) | (simp [go_sem, kw4_0_0, kw4_0_1, kw4_0_2, kw4_0_3, kw4_0_4, kw4_0_5, kw4_0_6, kw4_0_7, kw4_0_8, kw4_0_9, kw4_0_10, kw4_0_11]; done) | (simp [go_sem, *]; done)
    have kw5_1_2 : w5.cell? ⟨w4.heap.size, 2, none⟩ = some (.int .i64 d2) := by rw [hcw5 _ _ (by first | (simp; done) | omega | (simp; omega))]; first | assumption | (simp [go_sem]; done) | (simp [go_sem, kw4_0_0, kw4_0_1, kw4_0_2, kw4_0_3, kw4_0_4, kw4_0_5, kw4_0_6, kw4_0_7, kw4_0_8, kw4_0_9, kw4_0_10, kw4_0_11]; done) | (simp [go_sem, *]; done)
    have kw5_1_3 : w5.cell? ⟨w4.heap.size, 3, none⟩ = some (.int .i64 d3) := by rw [hcw5 _ _ (by first | (simp; done) | omega | (simp; omega))]; first | assumption | (simp [go_sem]; done) | (simp [go_sem, kw4_0_0, kw4_0_1, kw4_0_2, kw4_0_3, kw4_0_4, kw4_0_5, kw4_0_6, kw4_0_7, kw4_0_8, kw4_0_9, kw4_0_10, kw4_0_11]; done) | (simp [go_sem, *]; done)
    have kw5_1_4 : w5.cell? ⟨w4.heap.size, 4, none⟩ = some (.slice a2 n0 c2) := by rw [hcw5 _ _ (by first | (simp; done) | omega | (simp; omega))]; first | assumption | (simp [go_sem]; done) | (simp [go_sem, kw4_0_0, kw4_0_1, kw4_0_2, kw4_0_3, kw4_0_4, kw4_0_5, kw4_0_6, kw4_0_7, kw4_0_8, kw4_0_9, kw4_0_10, kw4_0_11]; done) | (simp [go_sem, *]; done)
    have kw5_1_5 : w5.cell? ⟨w4.heap.size, 5, none⟩ = some (.int .i64 d4) := by rw [hcw5 _ _ (by first | (simp; done) | omega | (simp; omega))]; first | assumption | (simp [go_sem]; done) | (simp [go_sem, kw4_0_0, kw4_0_1, kw4_0_2, kw4_0_3, kw4_0_4, kw4_0_5, kw4_0_6, kw4_0_7, kw4_0_8, kw4_0_9, kw4_0_10, kw4_0_11]; done) | (simp [go_sem, *]; done)
    have kw5_1_6 : w5.cell? ⟨w4.heap.size, 6, none⟩ = some (.int .i64 d5) := by rw [hcw5 _ _ (by first | (simp; done) | omega | (simp; omega))]; first | assumption | (simp [go_sem]; done) | (simp [go_sem, kw4_0_0, kw4_0_1, kw4_0_2, kw4_0_3, kw4_0_4, kw4_0_5, kw4_0_6, kw4_0_7, kw4_0_8, kw4_0_9, kw4_0_10, kw4_0_11]; done) | (simp [go_sem, *]; done)
    have kw5_1_7 : w5.cell? ⟨w4.heap.size, 7, none⟩ = some (.int .i64 d6) := by rw [hcw5 _ _ (by first | (simp; done) | omega | (simp; omega))]; first | assumption | (simp [go_sem]; done) | (simp [go_sem, kw4_0_0, kw4_0_1, kw4_0_2, kw4_0_3, kw4_0_4, kw4_0_5, kw4_0_6, kw4_0_7, kw4_0_8, kw4_0_9, kw4_0_10, kw4_0_11]; done) | (simp [go_sem, *]; done)
    have kw5_1_8 : w5.cell? ⟨w4.heap.size, 8, none⟩ = some (.int .i64 d7) := by rw [hcw5 _ _ (by first | (simp; done) | omega | (simp; omega))]; first | assumption | (simp [go_sem]; done) | (simp [go_sem, kw4_0_0, kw4_0_1, kw4_0_2, kw4_0_3, kw4_0_4, kw4_0_5, kw4_0_6, kw4_0_7, kw4_0_8, kw4_0_9, kw4_0_10, kw4_0_11]; done) | (simp [go_sem, *]; done)
    have kw5_1_9 : w5.cell? ⟨w4.heap.size, 9, none⟩ = some (.int .i64 d8) := by rw [hcw5 _ _ (by first | (simp; done) | omega | (simp; omega))]; first | assumption | (simp [go_sem]; done) | (simp [go_sem, kw4_0_0, kw4_0_1, kw4_0_2, kw4_0_3, kw4_0_4, kw4_0_5, kw4_0_6, kw4_0_7, kw4_0_8, kw4_0_9, kw4_0_10, kw4_0_11]; done) | (simp [go_sem, *]; done)
    have kw5_1_10 : w5.cell? ⟨w4.heap.size, 10, none⟩ = some (.int .i64 d9) := by rw [hcw5 _ _ (by first | (simp; done) | omega | (simp; omega))]; first | assumption | (simp [go_sem]; done) | (simp [go_sem, kw4_0_0, kw4_0_1, kw4_0_2, kw4_0_3, kw4_0_4, kw4_0_5, kw4_0_6, kw4_0_7, kw4_0_8, kw4_0_9, kw4_0_10, kw4_0_11]; done) | (simp [go_sem, *]; done)
    have kw5_1_11 : w5.cell? ⟨w4.heap.size, 11, none⟩ = some (.int .i64 d10) := by rw [hcw5 _ _ (by first | (simp; done) | omega | (simp; omega))]; first | assumption | (simp [go_sem]; done) | (simp [go_sem, kw4_0_0, kw4_0_1, kw4_0_2, kw4_0_3, kw4_0_4, kw4_0_5, kw4_0_6, kw4_0_7, kw4_0_8, kw4_0_9, kw4_0_10, kw4_0_11]; done) | (simp [go_sem, *]; done)
    have sw5_1 : w4.heap.size < w5.heap.size := by first | omega | (simp at *; omega)
    have hBw5 : Below w.heap.size w w5 := (by repeat (first | exact HBw4.out | exact Below.refl _ _ | refine bl_alloc ?_ _ | refine bl_drewN ?_ _ | refine bl_trans (by assumption) ?_ | refine bl_set ?_ (by first | omega | (simp; done) | (simp; omega)) _))
    have HBw5 := Lib.hid hBw5
    clear hBw5 hcw5 hfw5 hbw5 hkw5 kw4_0_0 kw4_0_1 kw4_0_2 kw4_0_3 kw4_0_4 kw4_0_5 kw4_0_6 kw4_0_7 kw4_0_8 kw4_0_9 kw4_0_10 kw4_0_11 sw4_0
    go_wp2_with fail
    have hS1 := (⟨(by first | assumption | (simp [go_sem]; done) | (simp [go_sem, *]; done)), (by first | assumption | (simp [go_sem]; done) | (simp [go_sem, *]; done)), (by first | assumption | (simp [go_sem]; done) | (simp [go_sem, *]; done)), (by first | assumption | (simp [go_sem]; done) | (simp [go_sem, *]; done)), (by first | assumption | (simp [go_sem]; done) | (simp [go_sem, *]; done)), (by first | assumption | (simp [go_sem]; done) | (simp [go_sem, *]; done)), (by first | assumption | (simp [go_sem]; done) | (simp [go_sem, *]; done)), (by first | assumption | (simp [go_sem]; done) | (simp [go_sem, *]; done)), (by first | assumption | (simp [go_sem]; done) | (simp [go_sem, *]; done)), (by first | assumption | (simp [go_sem]; done) | (simp [go_sem, *]; done)), (by first | assumption | (simp [go_sem]; done) | (simp [go_sem, *]; done)), (by first | assumption | (simp [go_sem]; done) | (simp [go_sem, *]; done)), (by first | assumption | (simp [go_sem]; done) | (simp [go_sem, *]; done)), (by first | assumption | (simp [go_sem]; done) | (simp [go_sem, *]; done)), (by first | assumption | (simp [go_sem]; done) | (simp [go_sem, *]; done)), (by first | assumption | (simp [go_sem]; done) | (simp [go_sem, *]; done)), (by first | assumption | (simp [go_sem]; done) | (simp [go_sem, *]; done)), (by first | assumption | (simp [go_sem]; done) | (simp [go_sem, *]; done)), (by first | assumption | (simp [go_sem]; done) | (simp [go_sem, *]; done)), (by first | assumption | (simp [go_sem]; done) | (simp [go_sem, *]; done)), (by first | assumption | (simp [go_sem]; done) | (simp [go_sem, *]; done)), (by first | assumption | (simp [go_sem]; done) | (simp [go_sem, *]; done)), (by first | assumption | (simp [go_sem]; done) | (simp [go_sem, *]; done)), (by first | assumption | (simp [go_sem]; done) | (simp [go_sem, *]; done)), (by first | assumption | omega | (simp; done) | (simp; omega)), (by first | assumption | omega | (simp; done) | (simp; omega)), (by repeat (first | exact HBw5.out | exact Below.refl _ _ | refine bl_alloc ?_ _ | refine bl_drewN ?_ _ | refine bl_trans (by assumption) ?_ | refine bl_set ?_ (by first | omega | (simp; done) | (simp; omega)) _)), (by repeat (first | exact Below.refl _ _ | refine bl_alloc ?_ _ | refine bl_drewN ?_ _ | refine bl_trans (by assumption) ?_ | refine bl_set ?_ (by first | omega | (simp; done) | (simp; omega)) _))⟩ : w5.cell? ⟨w.heap.size, 0, none⟩ = some (.int .i64 d0) ∧ w5.cell? ⟨w.heap.size, 1, none⟩ = some (.int .i64 d1) ∧ w5.cell? ⟨w.heap.size, 2, none⟩ = some (.int .i64 d2) ∧ w5.cell? ⟨w.heap.size, 3, none⟩ = some (.int .i64 d3) ∧ w5.cell? ⟨w.heap.size, 4, none⟩ = some (.slice a n0 c) ∧ w5.cell? ⟨w.heap.size, 5, none⟩ = some (.int .i64 d4) ∧ w5.cell? ⟨w.heap.size, 6, none⟩ = some (.int .i64 d5) ∧ w5.cell? ⟨w.heap.size, 7, none⟩ = some (.int .i64 d6) ∧ w5.cell? ⟨w.heap.size, 8, none⟩ = some (.int .i64 d7) ∧ w5.cell? ⟨w.heap.size, 9, none⟩ = some (.int .i64 d8) ∧ w5.cell? ⟨w.heap.size, 10, none⟩ = some (.int .i64 d9) ∧ w5.cell? ⟨w.heap.size, 11, none⟩ = some (.int .i64 d10) ∧ w5.cell? ⟨w4.heap.size, 0, none⟩ = some (.int .i64 d0) ∧ w5.cell? ⟨w4.heap.size, 1, none⟩ = some (.int .i64 d1) ∧ w5.cell? ⟨w4.heap.size, 2, none⟩ = some (.int .i64 d2) ∧ w5.cell? ⟨w4.heap.size, 3, none⟩ = some (.int .i64 d3) ∧ w5.cell? ⟨w4.heap.size, 4, none⟩ = some (.slice a2 n0 c2) ∧ w5.cell? ⟨w4.heap.size, 5, none⟩ = some (.int .i64 d4) ∧ w5.cell? ⟨w4.heap.size, 6, none⟩ = some (.int .i64 d5) ∧ w5.cell? ⟨w4.heap.size, 7, none⟩ = some (.int .i64 d6) ∧ w5.cell? ⟨w4.heap.size, 8, none⟩ = some (.int .i64 d7) ∧ w5.cell? ⟨w4.heap.size, 9, none⟩ = some (.int .i64 d8) ∧ w5.cell? ⟨w4.heap.size, 10, none⟩ = some (.int .i64 d9) ∧ w5.cell? ⟨w4.heap.size, 11, none⟩ = some (.int .i64 d10) ∧ w.heap.size < w5.heap.size ∧ w4.heap.size < w5.heap.size ∧ Below w.heap.size w w5 ∧ Below w5.heap.size w5 w5)
    go_region_held3 (fun w' => w'.cell? ⟨w.heap.size, 0, none⟩ = some (.int .i64 d0) ∧ w'.cell? ⟨w.heap.size, 1, none⟩ = some (.int .i64 d1) ∧ w'.cell? ⟨w.heap.size, 2, none⟩ = some (.int .i64 d2) ∧ w'.cell? ⟨w.heap.size, 3, none⟩ = some (.int .i64 d3) ∧ w'.cell? ⟨w.heap.size, 4, none⟩ = some (.slice a n0 c) ∧ w'.cell? ⟨w.heap.size, 5, none⟩ = some (.int .i64 d4) ∧ w'.cell? ⟨w.heap.size, 6, none⟩ = some (.int .i64 d5) ∧ w'.cell? ⟨w.heap.size, 7, none⟩ = some (.int .i64 d6) ∧ w'.cell? ⟨w.heap.size, 8, none⟩ = some (.int .i64 d7) ∧ w'.cell? ⟨w.heap.size, 9, none⟩ = some (.int .i64 d8) ∧ w'.cell? ⟨w.heap.size, 10, none⟩ = some (.int .i64 d9) ∧ w'.cell? ⟨w.heap.size, 11, none⟩ = some (.int .i64 d10) ∧ w'.cell? ⟨w4.heap.size, 0, none⟩ = some (.int .i64 d0) ∧ w'.cell? ⟨w4.heap.size, 1, none⟩ = some (.int .i64 d1) ∧ w'.cell? ⟨w4.heap.size, 2, none⟩ = some (.int .i64 d2) ∧ w'.cell? ⟨w4.heap.size, 3, none⟩ = some (.int .i64 d3) ∧ w'.cell? ⟨w4.heap.size, 4, none⟩ = some (.slice a2 n0 c2) ∧ w'.cell? ⟨w4.heap.size, 5, none⟩ = some (.int .i64 d4) ∧ w'.cell? ⟨w4.heap.size, 6, none⟩ = some (.int .i64 d5) ∧ w'.cell? ⟨w4.heap.size, 7, none⟩ = some (.int .i64 d6) ∧ w'.cell? ⟨w4.heap.size, 8, none⟩ = some (.int .i64 d7) ∧ w'.cell? ⟨w4.heap.size, 9, none⟩ = some (.int .i64 d8) ∧ w'.cell? ⟨w4.heap.size, 10, none⟩ = some (.int .i64 d9) ∧ w'.cell? ⟨w4.heap.size, 11, none⟩ = some (.int .i64 d10) ∧ w.heap.size < w'.heap.size ∧ w4.heap.size < w'.heap.size ∧ Below w.heap.size w w' ∧ Below w5.heap.size w5 w') (first | exact SA12_12_after hbp2 (by assumption) | exact SA12_12_after hbp1 (by assumption) | exact SA12_12_after (below_drewN (Below.refl _ _) _) (by assumption) | exact SA12_12_after (Below.drew (Below.refl _ _)) (by assumption) | assumption) (first | (go_at_call 14; refine (toDesk_any d0 d1 d2 d3 d4 d5 d6 d7 d8 d9 d10 _ n0 f0 _ (HH.out.keep (SA12_12_b1 (w := w) (c := w5) (by assumption))) hn).mono ?_; rintro e p1 ⟨u3, rfl, hO3, hbp1⟩) | (go_at_call 9; refine (eqDesk_any d0 d1 d2 d3 d4 d5 d6 d7 d8 d9 d10 _ _ n0 f0 _ (O2.out.toP.keep (SA12_12_b2 (w := w) (c := w5) (by assumption))) hO3.toP).mono ?_; rintro e p2 ⟨rfl, hbp2⟩) | fail)
    rename_i hh1
    clear hS1 kw5_0_0 kw5_0_1 kw5_0_2 kw5_0_3 kw5_0_4 kw5_0_5 kw5_0_6 kw5_0_7 kw5_0_8 kw5_0_9 kw5_0_10 kw5_0_11 sw5_0 kw5_1_0 kw5_1_1 kw5_1_2 kw5_1_3 kw5_1_4 kw5_1_5 kw5_1_6 kw5_1_7 kw5_1_8 kw5_1_9 kw5_1_10 kw5_1_11 sw5_1
    obtain ⟨m1_0_0, m1_0_1, m1_0_2, m1_0_3, m1_0_4, m1_0_5, m1_0_6, m1_0_7, m1_0_8, m1_0_9, m1_0_10, m1_0_11, m1_1_0, m1_1_1, m1_1_2, m1_1_3, m1_1_4, m1_1_5, m1_1_6, m1_1_7, m1_1_8, m1_1_9, m1_1_10, m1_1_11, ms1_0, ms1_1, hm1, hk1⟩ := hh1
    have HM1 := Lib.hid hm1
    clear hm1 hk1
    go_wp2
    go_ret
    exact ⟨rfl, (by repeat (first | exact HM1.out | exact Below.refl _ _ | refine bl_alloc ?_ _ | refine bl_drewN ?_ _ | refine bl_trans (by assumption) ?_ | refine bl_set ?_ (by first | omega | (simp; done) | (simp; omega)) _))⟩
  · go_enter Try.func4, Try.ntmps4
    go_wp2_with fail
    refine (szDesk_any d0 d1 d2 d3 d4 d5 d6 d7 d8 d9 d10 _ n0 f0 _ (HH.out.keep (by repeat (first | exact Below.refl _ _ | refine bl_alloc ?_ _ | refine bl_drewN ?_ _ | refine bl_trans (by assumption) ?_ | refine bl_set ?_ (by first | omega | (simp; done) | (simp; omega)) _)))).mono ?_
    rintro e w1 ⟨rfl, hb1⟩
    rw [if_neg hn]
    go_wp2
    go_ret
    exact ⟨rfl, (by repeat (first | exact Below.refl _ _ | refine bl_alloc ?_ _ | refine bl_drewN ?_ _ | refine bl_trans hb1 ?_ | refine bl_set ?_ (by first | omega | (simp; done) | (simp; omega)) _))⟩

set_option maxRecDepth 100000 in
theorem lifted (os : Os) (started : os.Started) (H : Type) (enc : TypeId × Value → H) :
    ReturnsInHanded {} Try.checked os 4 .any (Rows.fnExactIsDeskSpec.pre6 enc Try.prog Try.f4 Rows.fnExactIsDeskRow.domain false) (Rows.fnExactIsDeskSpec.post enc Try.prog Try.f4 false true false false) := by
  refine returnsInHanded_of_change (C := Try.checked) own started (by kernel_rfl) Try.func4
    (ChangeSpec.witness6 (enc := enc) (C := Try.checked) false ⟨#[], #[.agg #[.int .i64 0, .int .i64 0, .int .i64 0, .int .i64 0, .slice none 0 0, .int .i64 0, .int .i64 0, .int .i64 0, .int .i64 0, .int .i64 0, .int .i64 0, .int .i64 0]], []⟩ 8 (by kernel_rfl) (by kernel_rfl) (by kernel_rfl) (by kernel_rfl)) ?_
  intro W base args ds gs before hval0 hW hcnd _
  have hval : ∀ (j : Nat) t v, Try.f4.params[j]? = some t → args[j]? = some v → Value.okWide Try.prog W .any base t v := hval0
  have hW' := hW
  obtain ⟨p, q, hA0, hV, rfl, hfz, hnd⟩ := hW
  have hA : DataW.TrodAll enc Try.prog W 0 (fun _ => true) true Try.f4.params.toList args.toList ds p := hA0
  rw [Try.params4] at hA hval
  obtain ⟨v0, vs0, d0, ds0, p0, q0, hargs, rfl, rfl, h0, r0⟩ := trodAll_cons hA
  obtain ⟨rfl, rfl, rfl⟩ := trodAll_nil r0
  obtain rfl : args = #[v0] := by cases args; simp_all
  obtain ⟨rfl, rfl⟩ := trodVars_none hV
  have k0 := h0
  have lt0 : ∀ x ∈ p0, x.block < W.heap.size := by obtain ⟨m, hm⟩ := k0; exact DataW.trod_lt m _ _ _ hm
  obtain ⟨d0, d1, d2, d3, d4, d5, d6, d7, d8, d9, d10, v0c, n0, f0, rfl, hP0, wd0, wd1, wd2, wd3, wd4, wd5, wd6, wd7, wd8, wd9, wd10⟩ := open_desk (hval 0 40 v0 rfl rfl) h0
  clear hA0 hval0
  refine (walk d0 d1 d2 d3 d4 d5 d6 d7 d8 d9 d10 v0c n0 f0 wd0 wd1 wd2 wd3 wd4 wd5 wd6 wd7 wd8 wd9 wd10 W hP0).mono fun e W' ⟨he, bel⟩ => ?_
  subst he
  exact ⟨_, rfl, _, _, _, [], _, [], hW', trodAll_mk1 (shut_bool Try.underlying4 _), (trodAll_cons_mk (Below.trod laidOut (by kernel_rfl) (of_decide_eq_true (by kernel_rfl)) k0 bel lt0) trodAll_mk0), rfl, bel.frame _, fun h => by cases h⟩

theorem over : Rows.fnExactIsDeskRow.holds Try.pinned (OpenSpec.ofChange Rows.fnExactIsDeskSpec) :=
  OpenClaim.holds_of_wide 4 Try.f4 rfl rfl rfl rfl rfl rfl rfl ⟨rfl, rfl, rfl, rfl, rfl⟩ rfl rfl rfl rfl rfl (by kernel_rfl) Try.func4 (by simp only [joinedFacts, make, lifts, may, Bool.and_true]; kernel_rfl)
    (of_decide_eq_true (by kernel_rfl)) (by unfold Func.isWrapper; first | (rw [if_pos (by decide +kernel)]; kernel_rfl) | (rw [if_neg (by decide +kernel)]; exact ⟨rfl, rfl⟩))
    (fun os started H enc _ => lifted os started H enc)

theorem proved : Rows.FnExactIsDeskSaid := over
#print axioms proved
end Go.Proofs.Ytahcfjpplkemdaa.fnExactIsDesk

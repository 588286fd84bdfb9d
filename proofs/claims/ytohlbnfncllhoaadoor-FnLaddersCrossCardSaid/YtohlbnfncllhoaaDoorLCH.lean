/- What is drawn for chapter 1: ladders. -/
import Derived.Test.YtohlbnfncllhoaaDoorLCL
import Derived.Deep.RegionHeld3
import Derived.Deep.RegionWith
namespace Go.Proofs.YtohlbnfncllhoaaDoor
open Go.RowKit
set_option linter.unusedVariables false
set_option linter.unusedSimpArgs false
theorem l1Least_60 (b : Int) (hb : 1 ≤ b) (w : World) :
    Calls Tryd.prog 51 #[.int .i64 60, .int .i64 b] w fun e w' => ∃ r : Int, e = .returned (.int .i64 r) ∧ (1 ≤ r ∧ r ≤ 60) ∧ w = w' := by
  by_cases h : (60 : Int) < b
  · go_enter Tryd.func51, Tryd.ntmps51
    go_wp2
    go_ret
    exact ⟨_, rfl, by omega, rfl⟩
  · go_enter Tryd.func51, Tryd.ntmps51
    go_wp2
    go_ret
    exact ⟨_, rfl, by omega, rfl⟩
/-- what stands while a spot and its places are drawn: the drawer, the spot's box, the result's box -/
structure St (w : World) (cv : Value) (pp : Nat) (x y z : Int) (k : Nat) (W : World) : Prop where
  cur : Cur W (w.heap.size + 1) cv k
  hv : Bytes w w.heap.size cv
  p0 : W.cell? ⟨pp, 0, none⟩ = some (.int .i64 x)
  p1 : W.cell? ⟨pp, 1, none⟩ = some (.int .i64 y)
  p2 : W.cell? ⟨pp, 2, none⟩ = some (.int .i64 z)
  hp : pp < W.heap.size
  hq : w.heap.size + 1 < pp
  r0 : ∃ v, W.cell? ⟨w.heap.size, 0, none⟩ = some v
  r1 : ∃ v, W.cell? ⟨w.heap.size, 1, none⟩ = some v
  r2 : ∃ v, W.cell? ⟨w.heap.size, 2, none⟩ = some v
  f0 : W.frozen? ⟨w.heap.size, 0, none⟩ = false
  f1 : W.frozen? ⟨w.heap.size, 1, none⟩ = false
  f2 : W.frozen? ⟨w.heap.size, 2, none⟩ = false
  below : Below w.heap.size w W
theorem St.call {w W W' : World} {cv : Value} {pp : Nat} {x y z : Int} {k k' : Nat} (h : St w cv pp x y z k W) (hc : Cur W' (w.heap.size + 1) cv k') (hg : W.grownBy W' (some (w.heap.size + 1))) : St w cv pp x y z k' W' := by
  have h1 := h.hp
  have h2 := h.hq
  exact ⟨hc, h.hv, (grown_cell hg h.hp (by omega)).trans h.p0, (grown_cell hg h.hp (by omega)).trans h.p1, (grown_cell hg h.hp (by omega)).trans h.p2, Nat.lt_of_lt_of_le h.hp hg.size, h.hq,
    h.r0.imp fun v e => (grown_cell hg (by omega) (by omega)).trans e, h.r1.imp fun v e => (grown_cell hg (by omega) (by omega)).trans e, h.r2.imp fun v e => (grown_cell hg (by omega) (by omega)).trans e,
    (grown_frozen hg (by omega) (by omega)).trans h.f0, (grown_frozen hg (by omega) (by omega)).trans h.f1, (grown_frozen hg (by omega) (by omega)).trans h.f2, grown_below h.below (by omega) hg⟩
theorem St.alloc {w W : World} {cv : Value} {pp : Nat} {x y z : Int} {k : Nat} (h : St w cv pp x y z k W) (o : Obj) : St w cv pp x y z k (W.alloc o) := by
  obtain ⟨hca, hga⟩ := h.cur.alloc o
  exact h.call hca hga
theorem St.drew {w W : World} {cv : Value} {pp : Nat} {x y z : Int} {k : Nat} (h : St w cv pp x y z k W) : St w cv pp x y z k W.drew :=
  ⟨h.cur, h.hv, h.p0, h.p1, h.p2, h.hp, h.hq, h.r0, h.r1, h.r2, h.f0, h.f1, h.f2, Below.drew h.below⟩
theorem St.setr {w W : World} {cv : Value} {pp : Nat} {x y z : Int} {k : Nat} (h : St w cv pp x y z k W) (o : Nat) (v : Value) : St w cv pp x y z k (W.setCell ⟨w.heap.size, o, none⟩ v) := by
  have h1 := h.hp
  have h2 := h.hq
  have g := grown_set W w.heap.size o v
  have ex : ∀ q u, W.cell? ⟨w.heap.size, q, none⟩ = some u → ∃ u', (W.setCell ⟨w.heap.size, o, none⟩ v).cell? ⟨w.heap.size, q, none⟩ = some u' := by
    intro q u hu
    by_cases hq : q = o
    · subst hq
      simp [go_sem, hu]
    · exact ⟨u, by simp [go_sem, hu, hq, Ne.symm hq]⟩
  refine ⟨h.cur.kept2 (bytes_grown h.hv fun g o hg => (bcell h.below).1 g o hg) (by omega) g, h.hv, (grown_cell g h.hp (by omega)).trans h.p0, (grown_cell g h.hp (by omega)).trans h.p1, (grown_cell g h.hp (by omega)).trans h.p2, Nat.lt_of_lt_of_le h.hp g.size, h.hq, ?_, ?_, ?_, by simp [go_sem, h.f0], by simp [go_sem, h.f1], by simp [go_sem, h.f2], bl_set h.below (Nat.le_refl _) v⟩
  · obtain ⟨u, hu⟩ := h.r0
    exact ex 0 u hu
  · obtain ⟨u, hu⟩ := h.r1
    exact ex 1 u hu
  · obtain ⟨u, hu⟩ := h.r2
    exact ex 2 u hu
set_option maxRecDepth 100000 in
set_option maxHeartbeats 80000000 in
theorem DrawHeightAt_any (v : Value) (w : World) (hv : Bytes w w.heap.size v) :
    Calls Tryd.prog 27 #[v] w fun e w' => ∃ (x y z : Int) (r : Bool) (p : Int), e = .returned (.tuple #[.agg #[.int .i64 x, .int .i64 y, .int .i64 z], .bool r, .int .i64 p]) ∧ Below w.heap.size w w' := by
  obtain ⟨a, n, c, rfl, hn⟩ := hv.shape
  have hb0 := bl_alloc (Below.refl w.heap.size w) (.cells #[.int .i64 0, .int .i64 0, .int .i64 0] 25)
  have cr0 : (w.alloc (.cells #[.int .i64 0, .int .i64 0, .int .i64 0] 25)).cell? ⟨w.heap.size, 0, none⟩ = some (.int .i64 0) := by simp
  have cr1 : (w.alloc (.cells #[.int .i64 0, .int .i64 0, .int .i64 0] 25)).cell? ⟨w.heap.size, 1, none⟩ = some (.int .i64 0) := by simp
  have cr2 : (w.alloc (.cells #[.int .i64 0, .int .i64 0, .int .i64 0] 25)).cell? ⟨w.heap.size, 2, none⟩ = some (.int .i64 0) := by simp
  have fr0 : (w.alloc (.cells #[.int .i64 0, .int .i64 0, .int .i64 0] 25)).frozen? ⟨w.heap.size, 0, none⟩ = false := by simp [go_sem]
  have fr1 : (w.alloc (.cells #[.int .i64 0, .int .i64 0, .int .i64 0] 25)).frozen? ⟨w.heap.size, 1, none⟩ = false := by simp [go_sem]
  have fr2 : (w.alloc (.cells #[.int .i64 0, .int .i64 0, .int .i64 0] 25)).frozen? ⟨w.heap.size, 2, none⟩ = false := by simp [go_sem]
  have hzr : w.heap.size < (w.alloc (.cells #[.int .i64 0, .int .i64 0, .int .i64 0] 25)).heap.size := by first | (simp; done) | (simp; omega)
  have hv1 : Bytes (w.alloc (.cells #[.int .i64 0, .int .i64 0, .int .i64 0] 25)) (w.alloc (.cells #[.int .i64 0, .int .i64 0, .int .i64 0] 25)).heap.size (.slice a n c) := Bytes.up hv hb0
  have hs0 : (w.alloc (.cells #[.int .i64 0, .int .i64 0, .int .i64 0] 25)).heap.size = w.heap.size + 1 := by simp
  have HB0 := Lib.hid hb0
  clear hb0
  go_enter Tryd.func27, Tryd.ntmps27
  go_wp2_with fail
  generalize (w.alloc (.cells #[.int .i64 0, .int .i64 0, .int .i64 0] 25)) = w0 at *
  obtain ⟨hc, hb⟩ := Cur.start hv1 63
  rw [hs0] at hc
  have H0 := Lib.hid hc
  have HB := Lib.hid (bl_trans hb HB0.out)
  have cr0 := cell_after hb hzr cr0
  have cr1 := cell_after hb hzr cr1
  have cr2 := cell_after hb hzr cr2
  have fr0 := frozen_aft hb hzr fr0
  have fr1 := frozen_aft hb hzr fr1
  have fr2 := frozen_aft hb hzr fr2
  have hzr := Nat.lt_of_lt_of_le hzr hb.size
  clear hc hb HB0 hs0 hv1
  generalize (w0.alloc (.cells #[.slice a n c, .int .i64 0, .int .u64 0] 63)) = wd at *
  refine (ladders_any _ 0 _ _ (by omega) H0.out).mono ?_
  rintro e w1 ⟨x, y, z, rfl, hc, hg⟩
  have cr0 := (grown_cell hg hzr (by omega)).trans cr0
  have cr1 := (grown_cell hg hzr (by omega)).trans cr1
  have cr2 := (grown_cell hg hzr (by omega)).trans cr2
  have fr0 := (grown_frozen hg hzr (by omega)).trans fr0
  have fr1 := (grown_frozen hg hzr (by omega)).trans fr1
  have fr2 := (grown_frozen hg hzr (by omega)).trans fr2
  have hzr := Nat.lt_of_lt_of_le hzr hg.size
  have HBw1 := Lib.hid (grown_below HB.out (by omega) hg)
  have Hw1 := Lib.hid hc
  have hqw1 := hc.1
  clear hc hg
  obtain ⟨hca, hga⟩ := Hw1.out.alloc (.cells #[.int .i64 x, .int .i64 y, .int .i64 z] 25)
  have cr0 := (grown_cell hga hzr (by omega)).trans cr0
  have cr1 := (grown_cell hga hzr (by omega)).trans cr1
  have cr2 := (grown_cell hga hzr (by omega)).trans cr2
  have fr0 := (grown_frozen hga hzr (by omega)).trans fr0
  have fr1 := (grown_frozen hga hzr (by omega)).trans fr1
  have fr2 := (grown_frozen hga hzr (by omega)).trans fr2
  have hzr := Nat.lt_of_lt_of_le hzr hga.size
  have HB2 := Lib.hid (bl_alloc HBw1.out (.cells #[.int .i64 x, .int .i64 y, .int .i64 z] 25))
  have cp0 : (w1.alloc (.cells #[.int .i64 x, .int .i64 y, .int .i64 z] 25)).cell? ⟨w1.heap.size, 0, none⟩ = some (.int .i64 x) := by simp
  have cp1 : (w1.alloc (.cells #[.int .i64 x, .int .i64 y, .int .i64 z] 25)).cell? ⟨w1.heap.size, 1, none⟩ = some (.int .i64 y) := by simp
  have cp2 : (w1.alloc (.cells #[.int .i64 x, .int .i64 y, .int .i64 z] 25)).cell? ⟨w1.heap.size, 2, none⟩ = some (.int .i64 z) := by simp
  have fp0 : (w1.alloc (.cells #[.int .i64 x, .int .i64 y, .int .i64 z] 25)).frozen? ⟨w1.heap.size, 0, none⟩ = false := by simp [go_sem]
  have fp1 : (w1.alloc (.cells #[.int .i64 x, .int .i64 y, .int .i64 z] 25)).frozen? ⟨w1.heap.size, 1, none⟩ = false := by simp [go_sem]
  have fp2 : (w1.alloc (.cells #[.int .i64 x, .int .i64 y, .int .i64 z] 25)).frozen? ⟨w1.heap.size, 2, none⟩ = false := by simp [go_sem]
  have hzp : w1.heap.size < (w1.alloc (.cells #[.int .i64 x, .int .i64 y, .int .i64 z] 25)).heap.size := by first | (simp; done) | (simp; omega)
  have H2 := Lib.hid hca
  clear hca hga HB HBw1 H0
  have hne : w.heap.size ≠ w1.heap.size := by omega
  go_wp2_with fail
  generalize (w1.alloc (.cells #[.int .i64 x, .int .i64 y, .int .i64 z] 25)) = w2 at *
  have hS3 : St w (.slice a n c) w1.heap.size x y z 12 w2 := ⟨H2.out, hv, cp0, cp1, cp2, hzp, by omega, ⟨_, cr0⟩, ⟨_, cr1⟩, ⟨_, cr2⟩, fr0, fr1, fr2, HB2.out⟩
  clear hv H2 HB2
  go_region_with (first | (go_at_call 49; refine (one_any (w.heap.size + 1) 12 (.slice a n c) 2 (by omega) (by omega) _ (by omega) (St.cur (w := w) (cv := .slice a n c) (pp := w1.heap.size) (x := x) (y := y) (z := z) (by (repeat (first | (with_reducible exact hS3) | (with_reducible exact hS9) | (with_reducible exact hS8) | (with_reducible exact hS4) | (with_reducible refine St.drew ?_) | (with_reducible refine St.setr ?_ _ _) | (with_reducible refine St.alloc ?_ _))); done))).mono ?_; rintro e w4 ⟨s4, rfl, hc, hg⟩; have hS4 : St w (.slice a n c) w1.heap.size x y z 14 w4 := St.call (w := w) (cv := .slice a n c) (pp := w1.heap.size) (x := x) (y := y) (z := z) (k := 12) (by (repeat (first | (with_reducible exact hS3) | (with_reducible exact hS9) | (with_reducible exact hS8) | (with_reducible exact hS4) | (with_reducible refine St.drew ?_) | (with_reducible refine St.setr ?_ _ _) | (with_reducible refine St.alloc ?_ _))); done) hc hg; have xhS4p0 := hS4.p0; have xhS4p1 := hS4.p1; have xhS4p2 := hS4.p2; obtain ⟨vhS40, xhS4r0⟩ := hS4.r0; obtain ⟨vhS41, xhS4r1⟩ := hS4.r1; obtain ⟨vhS42, xhS4r2⟩ := hS4.r2; have xhS4f0 := hS4.f0; have xhS4f1 := hS4.f1; have xhS4f2 := hS4.f2; have xhS4hp := hS4.hp; have xhS4hq := hS4.hq; clear hc hg) | (go_at_call 52; refine (l1Most_any _ _ _).mono ?_; rintro e w6 ⟨rfl, rfl⟩) | (go_at_call 51; refine (l1Least_60 _ (by omega) _).mono ?_; rintro e w7 ⟨m, rfl, ⟨m1, m2⟩, rfl⟩) | (have gg8 := hS8; go_at_call 50; refine (pick_any (w.heap.size + 1) 16 (.slice a n c) 9 (by omega) (by omega) _ (by omega) (St.cur (w := w) (cv := .slice a n c) (pp := w1.heap.size) (x := x) (y := y) (z := z) (by (repeat (first | (with_reducible exact hS3) | (with_reducible exact hS9) | (with_reducible exact hS8) | (with_reducible exact hS4) | (with_reducible refine St.drew ?_) | (with_reducible refine St.setr ?_ _ _) | (with_reducible refine St.alloc ?_ _))); done))).mono ?_; rintro e w9 ⟨s9, rfl, ⟨s90, s91⟩, hc, hg⟩; have hS9 : St w (.slice a n c) w1.heap.size x y z 18 w9 := St.call (w := w) (cv := .slice a n c) (pp := w1.heap.size) (x := x) (y := y) (z := z) (k := 16) (by (repeat (first | (with_reducible exact hS3) | (with_reducible exact hS9) | (with_reducible exact hS8) | (with_reducible exact hS4) | (with_reducible refine St.drew ?_) | (with_reducible refine St.setr ?_ _ _) | (with_reducible refine St.alloc ?_ _))); done) hc hg; have xhS9p0 := hS9.p0; have xhS9p1 := hS9.p1; have xhS9p2 := hS9.p2; obtain ⟨vhS90, xhS9r0⟩ := hS9.r0; obtain ⟨vhS91, xhS9r1⟩ := hS9.r1; obtain ⟨vhS92, xhS9r2⟩ := hS9.r2; have xhS9f0 := hS9.f0; have xhS9f1 := hS9.f1; have xhS9f2 := hS9.f2; have xhS9hp := hS9.hp; have xhS9hq := hS9.hq; clear hc hg) | (go_at_call 50; rw [show IntKind.i64.wrap (m + 2) = m + 2 from IntWalk.i64_in _ ⟨by omega, by omega⟩]; refine (pick_any (w.heap.size + 1) 14 (.slice a n c) (m + 2) (by omega) (by omega) _ (by omega) (St.cur (w := w) (cv := .slice a n c) (pp := w1.heap.size) (x := x) (y := y) (z := z) (by (repeat (first | (with_reducible exact hS3) | (with_reducible exact hS9) | (with_reducible exact hS8) | (with_reducible exact hS4) | (with_reducible refine St.drew ?_) | (with_reducible refine St.setr ?_ _ _) | (with_reducible refine St.alloc ?_ _))); done))).mono ?_; rintro e w8 ⟨s8, rfl, ⟨s80, s81⟩, hc, hg⟩; have hS8 : St w (.slice a n c) w1.heap.size x y z 16 w8 := St.call (w := w) (cv := .slice a n c) (pp := w1.heap.size) (x := x) (y := y) (z := z) (k := 14) (by (repeat (first | (with_reducible exact hS3) | (with_reducible exact hS9) | (with_reducible exact hS8) | (with_reducible exact hS4) | (with_reducible refine St.drew ?_) | (with_reducible refine St.setr ?_ _ _) | (with_reducible refine St.alloc ?_ _))); done) hc hg; have xhS8p0 := hS8.p0; have xhS8p1 := hS8.p1; have xhS8p2 := hS8.p2; obtain ⟨vhS80, xhS8r0⟩ := hS8.r0; obtain ⟨vhS81, xhS8r1⟩ := hS8.r1; obtain ⟨vhS82, xhS8r2⟩ := hS8.r2; have xhS8f0 := hS8.f0; have xhS8f1 := hS8.f1; have xhS8f2 := hS8.f2; have xhS8hp := hS8.hp; have xhS8hq := hS8.hq; clear hc hg) | fail)
  all_goals
    go_wp2
    refine bodyPost_ret (v := .tuple #[.agg #[.int .i64 x, .int .i64 y, .int .i64 z], .bool s4, .int .i64 (IntKind.i64.wrap (s8 - IntKind.i64.wrap (s9.tdiv 8)))]) (by simp [results, Tryd.results27, go_sem, *]) rfl ⟨_, _, _, _, _, rfl, ?_⟩
    exact St.below (cv := .slice a n c) (pp := w1.heap.size) (x := x) (y := y) (z := z) (k := 18) (by (repeat (first | (with_reducible exact hS3) | (with_reducible exact hS9) | (with_reducible exact hS8) | (with_reducible exact hS4) | (with_reducible refine St.drew ?_) | (with_reducible refine St.setr ?_ _ _) | (with_reducible refine St.alloc ?_ _))); done)
end Go.Proofs.YtohlbnfncllhoaaDoor

/- What is drawn for chapter 5: two spots, a spot with two places. -/
import Derived.Test.YtbnkigponkelpaaWRL
import Derived.Deep.RegionWith
namespace Go.Proofs.Ytbnkigponkelpaa
open Go.RowKit
set_option linter.unusedVariables false
set_option linter.unusedSimpArgs false
/-- what stands while a spot and its places are drawn: the drawer, the spot's box, the result's box -/
structure St (w : World) (cv : Value) (pp : Nat) (x y : Int) (k : Nat) (W : World) : Prop where
  cur : Cur W (w.heap.size + 1) cv k
  hv : Bytes w w.heap.size cv
  p0 : W.cell? ⟨pp, 0, none⟩ = some (.int .i64 x)
  p1 : W.cell? ⟨pp, 1, none⟩ = some (.int .i64 y)
  hp : pp < W.heap.size
  hq : w.heap.size + 1 < pp
  r0 : ∃ v, W.cell? ⟨w.heap.size, 0, none⟩ = some v
  r1 : ∃ v, W.cell? ⟨w.heap.size, 1, none⟩ = some v
  f0 : W.frozen? ⟨w.heap.size, 0, none⟩ = false
  f1 : W.frozen? ⟨w.heap.size, 1, none⟩ = false
  below : Below w.heap.size w W
theorem St.call {w W W' : World} {cv : Value} {pp : Nat} {x y : Int} {k k' : Nat} (h : St w cv pp x y k W) (hc : Cur W' (w.heap.size + 1) cv k') (hg : W.grownBy W' (some (w.heap.size + 1))) : St w cv pp x y k' W' := by
  have h1 := h.hp
  have h2 := h.hq
  exact ⟨hc, h.hv, (grown_cell hg h.hp (by omega)).trans h.p0, (grown_cell hg h.hp (by omega)).trans h.p1, Nat.lt_of_lt_of_le h.hp hg.size, h.hq,
    h.r0.imp fun v e => (grown_cell hg (by omega) (by omega)).trans e, h.r1.imp fun v e => (grown_cell hg (by omega) (by omega)).trans e,
    (grown_frozen hg (by omega) (by omega)).trans h.f0, (grown_frozen hg (by omega) (by omega)).trans h.f1, grown_below h.below (by omega) hg⟩
theorem St.alloc {w W : World} {cv : Value} {pp : Nat} {x y : Int} {k : Nat} (h : St w cv pp x y k W) (o : Obj) : St w cv pp x y k (W.alloc o) := by
  obtain ⟨hca, hga⟩ := h.cur.alloc o
  exact h.call hca hga
theorem St.drew {w W : World} {cv : Value} {pp : Nat} {x y : Int} {k : Nat} (h : St w cv pp x y k W) : St w cv pp x y k W.drew :=
  ⟨h.cur, h.hv, h.p0, h.p1, h.hp, h.hq, h.r0, h.r1, h.f0, h.f1, Below.drew h.below⟩
theorem St.setr {w W : World} {cv : Value} {pp : Nat} {x y : Int} {k : Nat} (h : St w cv pp x y k W) (o : Nat) (v : Value) : St w cv pp x y k (W.setCell ⟨w.heap.size, o, none⟩ v) := by
  have h1 := h.hp
  have h2 := h.hq
  have g := grown_set W w.heap.size o v
  have ex : ∀ q u, W.cell? ⟨w.heap.size, q, none⟩ = some u → ∃ u', (W.setCell ⟨w.heap.size, o, none⟩ v).cell? ⟨w.heap.size, q, none⟩ = some u' := by
    intro q u hu
    by_cases hq : q = o
    · subst hq
      simp [go_sem, hu]
    · exact ⟨u, by simp [go_sem, hu, hq, Ne.symm hq]⟩
  refine ⟨h.cur.kept2 (bytes_grown h.hv fun g o hg => (bcell h.below).1 g o hg) (by omega) g, h.hv, (grown_cell g h.hp (by omega)).trans h.p0, (grown_cell g h.hp (by omega)).trans h.p1, Nat.lt_of_lt_of_le h.hp g.size, h.hq, ?_, ?_, by simp [go_sem, h.f0], by simp [go_sem, h.f1], bl_set h.below (Nat.le_refl _) v⟩
  · obtain ⟨u, hu⟩ := h.r0
    exact ex 0 u hu
  · obtain ⟨u, hu⟩ := h.r1
    exact ex 1 u hu
set_option maxRecDepth 100000 in
set_option maxHeartbeats 4000000 in
theorem DrawSquareStraight_any (v : Value) (w : World) (hv : Bytes w w.heap.size v) :
    Calls Try.prog 31 #[v] w fun e w' => ∃ x y z t : Int, e = .returned (.tuple #[.agg #[.int .i64 x, .int .i64 y], .agg #[.int .i64 z, .int .i64 t]]) ∧ Below w.heap.size w w' := by
  obtain ⟨a, n, c, rfl, hn⟩ := hv.shape
  have hb0 := bl_alloc (bl_alloc (Below.refl w.heap.size w) (.cells #[.int .i64 0, .int .i64 0] 25)) (.cells #[.int .i64 0, .int .i64 0] 25)
  have cr0 : ((w.alloc (.cells #[.int .i64 0, .int .i64 0] 25)).alloc (.cells #[.int .i64 0, .int .i64 0] 25)).cell? ⟨w.heap.size, 0, none⟩ = some (.int .i64 0) := by simp
  have cr1 : ((w.alloc (.cells #[.int .i64 0, .int .i64 0] 25)).alloc (.cells #[.int .i64 0, .int .i64 0] 25)).cell? ⟨w.heap.size, 1, none⟩ = some (.int .i64 0) := by simp
  have fr0 : ((w.alloc (.cells #[.int .i64 0, .int .i64 0] 25)).alloc (.cells #[.int .i64 0, .int .i64 0] 25)).frozen? ⟨w.heap.size, 0, none⟩ = false := by simp [go_sem]
  have fr1 : ((w.alloc (.cells #[.int .i64 0, .int .i64 0] 25)).alloc (.cells #[.int .i64 0, .int .i64 0] 25)).frozen? ⟨w.heap.size, 1, none⟩ = false := by simp [go_sem]
  have hzr : w.heap.size < ((w.alloc (.cells #[.int .i64 0, .int .i64 0] 25)).alloc (.cells #[.int .i64 0, .int .i64 0] 25)).heap.size := by first | (simp; done) | (simp; omega)
  have ct0 : ((w.alloc (.cells #[.int .i64 0, .int .i64 0] 25)).alloc (.cells #[.int .i64 0, .int .i64 0] 25)).cell? ⟨(w.heap.size + 1), 0, none⟩ = some (.int .i64 0) := by simp
  have ct1 : ((w.alloc (.cells #[.int .i64 0, .int .i64 0] 25)).alloc (.cells #[.int .i64 0, .int .i64 0] 25)).cell? ⟨(w.heap.size + 1), 1, none⟩ = some (.int .i64 0) := by simp
  have ft0 : ((w.alloc (.cells #[.int .i64 0, .int .i64 0] 25)).alloc (.cells #[.int .i64 0, .int .i64 0] 25)).frozen? ⟨(w.heap.size + 1), 0, none⟩ = false := by simp [go_sem]
  have ft1 : ((w.alloc (.cells #[.int .i64 0, .int .i64 0] 25)).alloc (.cells #[.int .i64 0, .int .i64 0] 25)).frozen? ⟨(w.heap.size + 1), 1, none⟩ = false := by simp [go_sem]
  have hzt : (w.heap.size + 1) < ((w.alloc (.cells #[.int .i64 0, .int .i64 0] 25)).alloc (.cells #[.int .i64 0, .int .i64 0] 25)).heap.size := by first | (simp; done) | (simp; omega)
  have hv1 : Bytes ((w.alloc (.cells #[.int .i64 0, .int .i64 0] 25)).alloc (.cells #[.int .i64 0, .int .i64 0] 25)) ((w.alloc (.cells #[.int .i64 0, .int .i64 0] 25)).alloc (.cells #[.int .i64 0, .int .i64 0] 25)).heap.size (.slice a n c) := Bytes.up hv hb0
  have hs0 : ((w.alloc (.cells #[.int .i64 0, .int .i64 0] 25)).alloc (.cells #[.int .i64 0, .int .i64 0] 25)).heap.size = w.heap.size + 2 := by simp
  have HB0 := Lib.hid hb0
  clear hb0
  go_enter Try.func31, Try.ntmps31
  go_wp2_with fail
  generalize ((w.alloc (.cells #[.int .i64 0, .int .i64 0] 25)).alloc (.cells #[.int .i64 0, .int .i64 0] 25)) = w0 at *
  obtain ⟨hc, hb⟩ := Cur.start hv1 62
  rw [hs0] at hc
  have H0 := Lib.hid hc
  have HB := Lib.hid (bl_trans hb HB0.out)
  have cr0 := cell_after hb hzr cr0
  have cr1 := cell_after hb hzr cr1
  have fr0 := frozen_aft hb hzr fr0
  have fr1 := frozen_aft hb hzr fr1
  have hzr := Nat.lt_of_lt_of_le hzr hb.size
  have ct0 := cell_after hb hzt ct0
  have ct1 := cell_after hb hzt ct1
  have ft0 := frozen_aft hb hzt ft0
  have ft1 := frozen_aft hb hzt ft1
  have hzt := Nat.lt_of_lt_of_le hzt hb.size
  clear hc hb HB0 hs0 hv1
  generalize (w0.alloc (.cells #[.slice a n c, .int .i64 0, .int .u64 0] 62)) = wd at *
  refine (spot_any _ 0 _ _ (by omega) H0.out).mono ?_
  rintro e w1 ⟨x0, y0, rfl, hc, hg⟩
  have cr0 := (grown_cell hg hzr (by omega)).trans cr0
  have cr1 := (grown_cell hg hzr (by omega)).trans cr1
  have fr0 := (grown_frozen hg hzr (by omega)).trans fr0
  have fr1 := (grown_frozen hg hzr (by omega)).trans fr1
  have hzr := Nat.lt_of_lt_of_le hzr hg.size
  have ct0 := (grown_cell hg hzt (by omega)).trans ct0
  have ct1 := (grown_cell hg hzt (by omega)).trans ct1
  have ft0 := (grown_frozen hg hzt (by omega)).trans ft0
  have ft1 := (grown_frozen hg hzt (by omega)).trans ft1
  have hzt := Nat.lt_of_lt_of_le hzt hg.size
  have HB1 := Lib.hid (grown_below HB.out (by omega) hg)
  have H1 := Lib.hid hc
  have hqw1 := hc.1
  clear hc hg
  go_wp2_with fail
  refine (spot_any _ 8 _ _ (by omega) H1.out).mono ?_
  rintro e w2 ⟨x1, y1, rfl, hc, hg⟩
  have cr0 := (grown_cell hg hzr (by omega)).trans cr0
  have cr1 := (grown_cell hg hzr (by omega)).trans cr1
  have fr0 := (grown_frozen hg hzr (by omega)).trans fr0
  have fr1 := (grown_frozen hg hzr (by omega)).trans fr1
  have hzr := Nat.lt_of_lt_of_le hzr hg.size
  have ct0 := (grown_cell hg hzt (by omega)).trans ct0
  have ct1 := (grown_cell hg hzt (by omega)).trans ct1
  have ft0 := (grown_frozen hg hzt (by omega)).trans ft0
  have ft1 := (grown_frozen hg hzt (by omega)).trans ft1
  have hzt := Nat.lt_of_lt_of_le hzt hg.size
  have HB2 := Lib.hid (grown_below HB1.out (by omega) hg)
  have H2 := Lib.hid hc
  have hqw2 := hc.1
  clear hc hg
  go_wp2
  refine bodyPost_ret (v := .tuple #[.agg #[.int .i64 x0, .int .i64 y0], .agg #[.int .i64 x1, .int .i64 y1]]) (by simp [results, Try.results31, go_sem, *]) rfl ⟨_, _, _, _, rfl, ?_⟩
  repeat (first | exact HB2.out | exact below_drewN HB2.out 1 | refine bl_set ?_ (by first | omega | (simp; done) | (simp; omega)) _ | refine bl_alloc ?_ _ | refine Below.drew ?_)
set_option maxRecDepth 100000 in
set_option maxHeartbeats 4000000 in
theorem DrawTouchOf_any (v : Value) (w : World) (hv : Bytes w w.heap.size v) :
    Calls Try.prog 6 #[v] w fun e w' => ∃ x y z t : Int, e = .returned (.tuple #[.agg #[.int .i64 x, .int .i64 y], .agg #[.int .i64 z, .int .i64 t]]) ∧ Below w.heap.size w w' := by
  obtain ⟨a, n, c, rfl, hn⟩ := hv.shape
  have hb0 := bl_alloc (bl_alloc (Below.refl w.heap.size w) (.cells #[.int .i64 0, .int .i64 0] 25)) (.cells #[.int .i64 0, .int .i64 0] 25)
  have cr0 : ((w.alloc (.cells #[.int .i64 0, .int .i64 0] 25)).alloc (.cells #[.int .i64 0, .int .i64 0] 25)).cell? ⟨w.heap.size, 0, none⟩ = some (.int .i64 0) := by simp
  have cr1 : ((w.alloc (.cells #[.int .i64 0, .int .i64 0] 25)).alloc (.cells #[.int .i64 0, .int .i64 0] 25)).cell? ⟨w.heap.size, 1, none⟩ = some (.int .i64 0) := by simp
  have fr0 : ((w.alloc (.cells #[.int .i64 0, .int .i64 0] 25)).alloc (.cells #[.int .i64 0, .int .i64 0] 25)).frozen? ⟨w.heap.size, 0, none⟩ = false := by simp [go_sem]
  have fr1 : ((w.alloc (.cells #[.int .i64 0, .int .i64 0] 25)).alloc (.cells #[.int .i64 0, .int .i64 0] 25)).frozen? ⟨w.heap.size, 1, none⟩ = false := by simp [go_sem]
  have hzr : w.heap.size < ((w.alloc (.cells #[.int .i64 0, .int .i64 0] 25)).alloc (.cells #[.int .i64 0, .int .i64 0] 25)).heap.size := by first | (simp; done) | (simp; omega)
  have ct0 : ((w.alloc (.cells #[.int .i64 0, .int .i64 0] 25)).alloc (.cells #[.int .i64 0, .int .i64 0] 25)).cell? ⟨(w.heap.size + 1), 0, none⟩ = some (.int .i64 0) := by simp
  have ct1 : ((w.alloc (.cells #[.int .i64 0, .int .i64 0] 25)).alloc (.cells #[.int .i64 0, .int .i64 0] 25)).cell? ⟨(w.heap.size + 1), 1, none⟩ = some (.int .i64 0) := by simp
  have ft0 : ((w.alloc (.cells #[.int .i64 0, .int .i64 0] 25)).alloc (.cells #[.int .i64 0, .int .i64 0] 25)).frozen? ⟨(w.heap.size + 1), 0, none⟩ = false := by simp [go_sem]
  have ft1 : ((w.alloc (.cells #[.int .i64 0, .int .i64 0] 25)).alloc (.cells #[.int .i64 0, .int .i64 0] 25)).frozen? ⟨(w.heap.size + 1), 1, none⟩ = false := by simp [go_sem]
  have hzt : (w.heap.size + 1) < ((w.alloc (.cells #[.int .i64 0, .int .i64 0] 25)).alloc (.cells #[.int .i64 0, .int .i64 0] 25)).heap.size := by first | (simp; done) | (simp; omega)
  have hv1 : Bytes ((w.alloc (.cells #[.int .i64 0, .int .i64 0] 25)).alloc (.cells #[.int .i64 0, .int .i64 0] 25)) ((w.alloc (.cells #[.int .i64 0, .int .i64 0] 25)).alloc (.cells #[.int .i64 0, .int .i64 0] 25)).heap.size (.slice a n c) := Bytes.up hv hb0
  have HB0 := Lib.hid hb0
  clear hb0
  go_enter Try.func6, Try.ntmps6
  go_wp2_with fail
  generalize ((w.alloc (.cells #[.int .i64 0, .int .i64 0] 25)).alloc (.cells #[.int .i64 0, .int .i64 0] 25)) = w0 at *
  refine (DrawSquareStraight_any _ _ hv1).mono ?_
  rintro e w1 ⟨x0, y0, x1, y1, rfl, hb⟩
  have cr0 := cell_after hb hzr cr0
  have cr1 := cell_after hb hzr cr1
  have fr0 := frozen_aft hb hzr fr0
  have fr1 := frozen_aft hb hzr fr1
  have hzr := Nat.lt_of_lt_of_le hzr hb.size
  have ct0 := cell_after hb hzt ct0
  have ct1 := cell_after hb hzt ct1
  have ft0 := frozen_aft hb hzt ft0
  have ft1 := frozen_aft hb hzt ft1
  have hzt := Nat.lt_of_lt_of_le hzt hb.size
  have HB1 := Lib.hid (bl_trans hb HB0.out)
  clear hb hv1
  go_wp2
  refine bodyPost_ret (v := .tuple #[.agg #[.int .i64 x0, .int .i64 y0], .agg #[.int .i64 x1, .int .i64 y1]]) (by simp [results, Try.results6, go_sem, *]) rfl ⟨_, _, _, _, rfl, ?_⟩
  repeat (first | exact HB1.out | exact below_drewN HB1.out 1 | refine bl_set ?_ (by first | omega | (simp; done) | (simp; omega)) _ | refine bl_alloc ?_ _ | refine Below.drew ?_)
set_option maxRecDepth 100000 in
set_option maxHeartbeats 8000000 in
theorem DrawSquareByCorner_any (v : Value) (w : World) (hv : Bytes w w.heap.size v) :
    Calls Try.prog 43 #[v] w fun e w' => ∃ x y z t : Int, e = .returned (.tuple #[.agg #[.int .i64 x, .int .i64 y], .agg #[.int .i64 z, .int .i64 t]]) ∧ Below w.heap.size w w' := by
  obtain ⟨a, n, c, rfl, hn⟩ := hv.shape
  have hb0 := bl_alloc (bl_alloc (Below.refl w.heap.size w) (.cells #[.int .i64 0, .int .i64 0] 25)) (.cells #[.int .i64 0, .int .i64 0] 25)
  have cr0 : ((w.alloc (.cells #[.int .i64 0, .int .i64 0] 25)).alloc (.cells #[.int .i64 0, .int .i64 0] 25)).cell? ⟨w.heap.size, 0, none⟩ = some (.int .i64 0) := by simp
  have cr1 : ((w.alloc (.cells #[.int .i64 0, .int .i64 0] 25)).alloc (.cells #[.int .i64 0, .int .i64 0] 25)).cell? ⟨w.heap.size, 1, none⟩ = some (.int .i64 0) := by simp
  have fr0 : ((w.alloc (.cells #[.int .i64 0, .int .i64 0] 25)).alloc (.cells #[.int .i64 0, .int .i64 0] 25)).frozen? ⟨w.heap.size, 0, none⟩ = false := by simp [go_sem]
  have fr1 : ((w.alloc (.cells #[.int .i64 0, .int .i64 0] 25)).alloc (.cells #[.int .i64 0, .int .i64 0] 25)).frozen? ⟨w.heap.size, 1, none⟩ = false := by simp [go_sem]
  have hzr : w.heap.size < ((w.alloc (.cells #[.int .i64 0, .int .i64 0] 25)).alloc (.cells #[.int .i64 0, .int .i64 0] 25)).heap.size := by first | (simp; done) | (simp; omega)
  have ct0 : ((w.alloc (.cells #[.int .i64 0, .int .i64 0] 25)).alloc (.cells #[.int .i64 0, .int .i64 0] 25)).cell? ⟨(w.heap.size + 1), 0, none⟩ = some (.int .i64 0) := by simp
  have ct1 : ((w.alloc (.cells #[.int .i64 0, .int .i64 0] 25)).alloc (.cells #[.int .i64 0, .int .i64 0] 25)).cell? ⟨(w.heap.size + 1), 1, none⟩ = some (.int .i64 0) := by simp
  have ft0 : ((w.alloc (.cells #[.int .i64 0, .int .i64 0] 25)).alloc (.cells #[.int .i64 0, .int .i64 0] 25)).frozen? ⟨(w.heap.size + 1), 0, none⟩ = false := by simp [go_sem]
  have ft1 : ((w.alloc (.cells #[.int .i64 0, .int .i64 0] 25)).alloc (.cells #[.int .i64 0, .int .i64 0] 25)).frozen? ⟨(w.heap.size + 1), 1, none⟩ = false := by simp [go_sem]
  have hzt : (w.heap.size + 1) < ((w.alloc (.cells #[.int .i64 0, .int .i64 0] 25)).alloc (.cells #[.int .i64 0, .int .i64 0] 25)).heap.size := by first | (simp; done) | (simp; omega)
  have hv1 : Bytes ((w.alloc (.cells #[.int .i64 0, .int .i64 0] 25)).alloc (.cells #[.int .i64 0, .int .i64 0] 25)) ((w.alloc (.cells #[.int .i64 0, .int .i64 0] 25)).alloc (.cells #[.int .i64 0, .int .i64 0] 25)).heap.size (.slice a n c) := Bytes.up hv hb0
  have hs0 : ((w.alloc (.cells #[.int .i64 0, .int .i64 0] 25)).alloc (.cells #[.int .i64 0, .int .i64 0] 25)).heap.size = w.heap.size + 2 := by simp
  have HB0 := Lib.hid hb0
  clear hb0
  go_enter Try.func43, Try.ntmps43
  go_wp2_with fail
  generalize ((w.alloc (.cells #[.int .i64 0, .int .i64 0] 25)).alloc (.cells #[.int .i64 0, .int .i64 0] 25)) = w0 at *
  obtain ⟨hc, hb⟩ := Cur.start hv1 62
  rw [hs0] at hc
  have H0 := Lib.hid hc
  have HB := Lib.hid (bl_trans hb HB0.out)
  have cr0 := cell_after hb hzr cr0
  have cr1 := cell_after hb hzr cr1
  have fr0 := frozen_aft hb hzr fr0
  have fr1 := frozen_aft hb hzr fr1
  have hzr := Nat.lt_of_lt_of_le hzr hb.size
  have ct0 := cell_after hb hzt ct0
  have ct1 := cell_after hb hzt ct1
  have ft0 := frozen_aft hb hzt ft0
  have ft1 := frozen_aft hb hzt ft1
  have hzt := Nat.lt_of_lt_of_le hzt hb.size
  clear hc hb HB0 hs0 hv1
  generalize (w0.alloc (.cells #[.slice a n c, .int .i64 0, .int .u64 0] 62)) = wd at *
  refine (spot_any _ 0 _ _ (by omega) H0.out).mono ?_
  rintro e w1 ⟨x0, y0, rfl, hc, hg⟩
  have cr0 := (grown_cell hg hzr (by omega)).trans cr0
  have cr1 := (grown_cell hg hzr (by omega)).trans cr1
  have fr0 := (grown_frozen hg hzr (by omega)).trans fr0
  have fr1 := (grown_frozen hg hzr (by omega)).trans fr1
  have hzr := Nat.lt_of_lt_of_le hzr hg.size
  have ct0 := (grown_cell hg hzt (by omega)).trans ct0
  have ct1 := (grown_cell hg hzt (by omega)).trans ct1
  have ft0 := (grown_frozen hg hzt (by omega)).trans ft0
  have ft1 := (grown_frozen hg hzt (by omega)).trans ft1
  have hzt := Nat.lt_of_lt_of_le hzt hg.size
  have HB1 := Lib.hid (grown_below HB.out (by omega) hg)
  have H1 := Lib.hid hc
  have hqw1 := hc.1
  clear hc hg
  go_wp2_with fail
  refine (spot_any _ 8 _ _ (by omega) H1.out).mono ?_
  rintro e w2 ⟨x1, y1, rfl, hc, hg⟩
  have cr0 := (grown_cell hg hzr (by omega)).trans cr0
  have cr1 := (grown_cell hg hzr (by omega)).trans cr1
  have fr0 := (grown_frozen hg hzr (by omega)).trans fr0
  have fr1 := (grown_frozen hg hzr (by omega)).trans fr1
  have hzr := Nat.lt_of_lt_of_le hzr hg.size
  have ct0 := (grown_cell hg hzt (by omega)).trans ct0
  have ct1 := (grown_cell hg hzt (by omega)).trans ct1
  have ft0 := (grown_frozen hg hzt (by omega)).trans ft0
  have ft1 := (grown_frozen hg hzt (by omega)).trans ft1
  have hzt := Nat.lt_of_lt_of_le hzt hg.size
  have HB2 := Lib.hid (grown_below HB1.out (by omega) hg)
  have H2 := Lib.hid hc
  have hqw2 := hc.1
  clear hc hg
  obtain ⟨hca, hga⟩ := H2.out.alloc (.cells #[.int .i64 x0, .int .i64 y0] 25)
  obtain ⟨hcb, hgb⟩ := hca.alloc (.cells #[.int .i64 x1, .int .i64 y1] 25)
  have GG := grown_trans hga hgb
  have hs2 : w.heap.size + 2 < w2.heap.size := hqw2
  have cr0 := (grown_cell GG hzr (by omega)).trans cr0
  have cr1 := (grown_cell GG hzr (by omega)).trans cr1
  have fr0 := (grown_frozen GG hzr (by omega)).trans fr0
  have fr1 := (grown_frozen GG hzr (by omega)).trans fr1
  have hzr := Nat.lt_of_lt_of_le hzr GG.size
  have ct0 := (grown_cell GG hzt (by omega)).trans ct0
  have ct1 := (grown_cell GG hzt (by omega)).trans ct1
  have ft0 := (grown_frozen GG hzt (by omega)).trans ft0
  have ft1 := (grown_frozen GG hzt (by omega)).trans ft1
  have hzt := Nat.lt_of_lt_of_le hzt GG.size
  have HB3 := Lib.hid (bl_alloc (bl_alloc HB2.out (.cells #[.int .i64 x0, .int .i64 y0] 25)) (.cells #[.int .i64 x1, .int .i64 y1] 25))
  have cp0 : ((w2.alloc (.cells #[.int .i64 x0, .int .i64 y0] 25)).alloc (.cells #[.int .i64 x1, .int .i64 y1] 25)).cell? ⟨w2.heap.size, 0, none⟩ = some (.int .i64 x0) := by simp
  have cp1 : ((w2.alloc (.cells #[.int .i64 x0, .int .i64 y0] 25)).alloc (.cells #[.int .i64 x1, .int .i64 y1] 25)).cell? ⟨w2.heap.size, 1, none⟩ = some (.int .i64 y0) := by simp
  have fp0 : ((w2.alloc (.cells #[.int .i64 x0, .int .i64 y0] 25)).alloc (.cells #[.int .i64 x1, .int .i64 y1] 25)).frozen? ⟨w2.heap.size, 0, none⟩ = false := by simp [go_sem]
  have fp1 : ((w2.alloc (.cells #[.int .i64 x0, .int .i64 y0] 25)).alloc (.cells #[.int .i64 x1, .int .i64 y1] 25)).frozen? ⟨w2.heap.size, 1, none⟩ = false := by simp [go_sem]
  have hzp : w2.heap.size < ((w2.alloc (.cells #[.int .i64 x0, .int .i64 y0] 25)).alloc (.cells #[.int .i64 x1, .int .i64 y1] 25)).heap.size := by first | (simp; done) | (simp; omega)
  have cq0 : ((w2.alloc (.cells #[.int .i64 x0, .int .i64 y0] 25)).alloc (.cells #[.int .i64 x1, .int .i64 y1] 25)).cell? ⟨(w2.heap.size + 1), 0, none⟩ = some (.int .i64 x1) := by simp
  have cq1 : ((w2.alloc (.cells #[.int .i64 x0, .int .i64 y0] 25)).alloc (.cells #[.int .i64 x1, .int .i64 y1] 25)).cell? ⟨(w2.heap.size + 1), 1, none⟩ = some (.int .i64 y1) := by simp
  have fq0 : ((w2.alloc (.cells #[.int .i64 x0, .int .i64 y0] 25)).alloc (.cells #[.int .i64 x1, .int .i64 y1] 25)).frozen? ⟨(w2.heap.size + 1), 0, none⟩ = false := by simp [go_sem]
  have fq1 : ((w2.alloc (.cells #[.int .i64 x0, .int .i64 y0] 25)).alloc (.cells #[.int .i64 x1, .int .i64 y1] 25)).frozen? ⟨(w2.heap.size + 1), 1, none⟩ = false := by simp [go_sem]
  have hzq : (w2.heap.size + 1) < ((w2.alloc (.cells #[.int .i64 x0, .int .i64 y0] 25)).alloc (.cells #[.int .i64 x1, .int .i64 y1] 25)).heap.size := by first | (simp; done) | (simp; omega)
  have H3 := Lib.hid hcb
  clear hca hga hcb hgb GG HB HB1 HB2 H0 H1 H2
  go_wp2_with fail
  generalize ((w2.alloc (.cells #[.int .i64 x0, .int .i64 y0] 25)).alloc (.cells #[.int .i64 x1, .int .i64 y1] 25)) = w3 at *
  refine (l1In_any _ _ _ _).mono ?_
  rintro e w' ⟨rfl, rfl⟩
  cases hw0 : within x0 (-10) 0
  · go_wp2_with fail
    refine (l1In_any _ _ _ _).mono ?_
    rintro e w' ⟨rfl, rfl⟩
    cases hw1 : within x1 (-10) 0
    · go_wp2_with fail
      go_region
      all_goals
        go_wp2
        refine bodyPost_ret (v := .tuple #[.agg #[.int .i64 x0, .int .i64 y0], .agg #[.int .i64 x1, .int .i64 y1]]) (by simp [results, Try.results43, go_sem, *]) rfl ⟨_, _, _, _, rfl, ?_⟩
        repeat (first | exact HB3.out | exact below_drewN HB3.out 1 | refine bl_set ?_ (by first | omega | (simp; done) | (simp; omega)) _ | refine bl_alloc ?_ _ | refine Below.drew ?_)
    · go_wp2_with fail
      refine (one_any _ 16 _ 4 (by omega) (by omega) _ (by omega) H3.out).mono ?_
      rintro e wn1 ⟨o1, rfl, hc, hg⟩
      have cr0 := (grown_cell hg hzr (by omega)).trans cr0
      have cr1 := (grown_cell hg hzr (by omega)).trans cr1
      have fr0 := (grown_frozen hg hzr (by omega)).trans fr0
      have fr1 := (grown_frozen hg hzr (by omega)).trans fr1
      have hzr := Nat.lt_of_lt_of_le hzr hg.size
      have ct0 := (grown_cell hg hzt (by omega)).trans ct0
      have ct1 := (grown_cell hg hzt (by omega)).trans ct1
      have ft0 := (grown_frozen hg hzt (by omega)).trans ft0
      have ft1 := (grown_frozen hg hzt (by omega)).trans ft1
      have hzt := Nat.lt_of_lt_of_le hzt hg.size
      have cp0 := (grown_cell hg hzp (by omega)).trans cp0
      have cp1 := (grown_cell hg hzp (by omega)).trans cp1
      have fp0 := (grown_frozen hg hzp (by omega)).trans fp0
      have fp1 := (grown_frozen hg hzp (by omega)).trans fp1
      have hzp := Nat.lt_of_lt_of_le hzp hg.size
      have cq0 := (grown_cell hg hzq (by omega)).trans cq0
      have cq1 := (grown_cell hg hzq (by omega)).trans cq1
      have fq0 := (grown_frozen hg hzq (by omega)).trans fq0
      have fq1 := (grown_frozen hg hzq (by omega)).trans fq1
      have hzq := Nat.lt_of_lt_of_le hzq hg.size
      have HBn1 := Lib.hid (grown_below HB3.out (by omega) hg)
      have Hn1 := Lib.hid hc
      have hqn1 := hc.1
      clear hc hg
      cases o1
      · go_wp2_with fail
        have gs := grown_set wn1 (w2.heap.size + 1) 0 (.int .i64 (wrap64 (1 - x1)))
        have Hm1 := Lib.hid (Hn1.out.kept gs (by omega))
        have HBm1 := Lib.hid (bl_set HBn1.out (by first | omega | (simp; omega)) (.int .i64 (wrap64 (1 - x1))) : Below w.heap.size w (wn1.setCell ⟨w2.heap.size + 1, 0, none⟩ (.int .i64 (wrap64 (1 - x1)))))
        have cr0 := (grown_cell gs hzr (by omega)).trans cr0
        have cr1 := (grown_cell gs hzr (by omega)).trans cr1
        have fr0 := (grown_frozen gs hzr (by omega)).trans fr0
        have fr1 := (grown_frozen gs hzr (by omega)).trans fr1
        have ct0 := (grown_cell gs hzt (by omega)).trans ct0
        have ct1 := (grown_cell gs hzt (by omega)).trans ct1
        have ft0 := (grown_frozen gs hzt (by omega)).trans ft0
        have ft1 := (grown_frozen gs hzt (by omega)).trans ft1
        have cp0 := (grown_cell gs hzp (by omega)).trans cp0
        have cp1 := (grown_cell gs hzp (by omega)).trans cp1
        have fp0 := (grown_frozen gs hzp (by omega)).trans fp0
        have fp1 := (grown_frozen gs hzp (by omega)).trans fp1
        have cq0 : (wn1.setCell ⟨w2.heap.size + 1, 0, none⟩ (.int .i64 (wrap64 (1 - x1)))).cell? ⟨(w2.heap.size + 1), 0, none⟩ = some (.int .i64 (wrap64 (1 - x1))) := by simp [go_sem, cq0, fq0]
        have cq1 : (wn1.setCell ⟨w2.heap.size + 1, 0, none⟩ (.int .i64 (wrap64 (1 - x1)))).cell? ⟨(w2.heap.size + 1), 1, none⟩ = some (.int .i64 y1) := by simp [go_sem, cq1]
        have fq0 : (wn1.setCell ⟨w2.heap.size + 1, 0, none⟩ (.int .i64 (wrap64 (1 - x1)))).frozen? ⟨(w2.heap.size + 1), 0, none⟩ = false := by simp [go_sem, fq0]
        have fq1 : (wn1.setCell ⟨w2.heap.size + 1, 0, none⟩ (.int .i64 (wrap64 (1 - x1)))).frozen? ⟨(w2.heap.size + 1), 1, none⟩ = false := by simp [go_sem, fq1]
        have hzr := Nat.lt_of_lt_of_le hzr gs.size
        have hzt := Nat.lt_of_lt_of_le hzt gs.size
        have hzp := Nat.lt_of_lt_of_le hzp gs.size
        have hzq := Nat.lt_of_lt_of_le hzq gs.size
        clear gs
        generalize (wn1.setCell ⟨w2.heap.size + 1, 0, none⟩ (.int .i64 (wrap64 (1 - x1)))) = wm1 at *
        generalize wrap64 (1 - x1) = u1 at *
        go_wp2_with fail
        go_region
        all_goals
          go_wp2
          refine bodyPost_ret (v := .tuple #[.agg #[.int .i64 x0, .int .i64 y0], .agg #[.int .i64 u1, .int .i64 y1]]) (by simp [results, Try.results43, go_sem, *]) rfl ⟨_, _, _, _, rfl, ?_⟩
          repeat (first | exact HBm1.out | exact below_drewN HBm1.out 1 | refine bl_set ?_ (by first | omega | (simp; done) | (simp; omega)) _ | refine bl_alloc ?_ _ | refine Below.drew ?_)
      · go_wp2_with fail
        go_region
        all_goals
          go_wp2
          refine bodyPost_ret (v := .tuple #[.agg #[.int .i64 x0, .int .i64 y0], .agg #[.int .i64 x1, .int .i64 y1]]) (by simp [results, Try.results43, go_sem, *]) rfl ⟨_, _, _, _, rfl, ?_⟩
          repeat (first | exact HBn1.out | exact below_drewN HBn1.out 1 | refine bl_set ?_ (by first | omega | (simp; done) | (simp; omega)) _ | refine bl_alloc ?_ _ | refine Below.drew ?_)
  · go_wp2_with fail
    refine (one_any _ 16 _ 4 (by omega) (by omega) _ (by omega) H3.out).mono ?_
    rintro e wn0 ⟨o0, rfl, hc, hg⟩
    have cr0 := (grown_cell hg hzr (by omega)).trans cr0
    have cr1 := (grown_cell hg hzr (by omega)).trans cr1
    have fr0 := (grown_frozen hg hzr (by omega)).trans fr0
    have fr1 := (grown_frozen hg hzr (by omega)).trans fr1
    have hzr := Nat.lt_of_lt_of_le hzr hg.size
    have ct0 := (grown_cell hg hzt (by omega)).trans ct0
    have ct1 := (grown_cell hg hzt (by omega)).trans ct1
    have ft0 := (grown_frozen hg hzt (by omega)).trans ft0
    have ft1 := (grown_frozen hg hzt (by omega)).trans ft1
    have hzt := Nat.lt_of_lt_of_le hzt hg.size
    have cp0 := (grown_cell hg hzp (by omega)).trans cp0
    have cp1 := (grown_cell hg hzp (by omega)).trans cp1
    have fp0 := (grown_frozen hg hzp (by omega)).trans fp0
    have fp1 := (grown_frozen hg hzp (by omega)).trans fp1
    have hzp := Nat.lt_of_lt_of_le hzp hg.size
    have cq0 := (grown_cell hg hzq (by omega)).trans cq0
    have cq1 := (grown_cell hg hzq (by omega)).trans cq1
    have fq0 := (grown_frozen hg hzq (by omega)).trans fq0
    have fq1 := (grown_frozen hg hzq (by omega)).trans fq1
    have hzq := Nat.lt_of_lt_of_le hzq hg.size
    have HBn0 := Lib.hid (grown_below HB3.out (by omega) hg)
    have Hn0 := Lib.hid hc
    have hqn0 := hc.1
    clear hc hg
    cases o0
    · go_wp2_with fail
      have gs := grown_set wn0 w2.heap.size 0 (.int .i64 (wrap64 (1 - x0)))
      have Hm0 := Lib.hid (Hn0.out.kept gs (by omega))
      have HBm0 := Lib.hid (bl_set HBn0.out (by first | omega | (simp; omega)) (.int .i64 (wrap64 (1 - x0))) : Below w.heap.size w (wn0.setCell ⟨w2.heap.size, 0, none⟩ (.int .i64 (wrap64 (1 - x0)))))
      have cr0 := (grown_cell gs hzr (by omega)).trans cr0
      have cr1 := (grown_cell gs hzr (by omega)).trans cr1
      have fr0 := (grown_frozen gs hzr (by omega)).trans fr0
      have fr1 := (grown_frozen gs hzr (by omega)).trans fr1
      have ct0 := (grown_cell gs hzt (by omega)).trans ct0
      have ct1 := (grown_cell gs hzt (by omega)).trans ct1
      have ft0 := (grown_frozen gs hzt (by omega)).trans ft0
      have ft1 := (grown_frozen gs hzt (by omega)).trans ft1
      have cp0 : (wn0.setCell ⟨w2.heap.size, 0, none⟩ (.int .i64 (wrap64 (1 - x0)))).cell? ⟨w2.heap.size, 0, none⟩ = some (.int .i64 (wrap64 (1 - x0))) := by simp [go_sem, cp0, fp0]
      have cp1 : (wn0.setCell ⟨w2.heap.size, 0, none⟩ (.int .i64 (wrap64 (1 - x0)))).cell? ⟨w2.heap.size, 1, none⟩ = some (.int .i64 y0) := by simp [go_sem, cp1]
      have fp0 : (wn0.setCell ⟨w2.heap.size, 0, none⟩ (.int .i64 (wrap64 (1 - x0)))).frozen? ⟨w2.heap.size, 0, none⟩ = false := by simp [go_sem, fp0]
      have fp1 : (wn0.setCell ⟨w2.heap.size, 0, none⟩ (.int .i64 (wrap64 (1 - x0)))).frozen? ⟨w2.heap.size, 1, none⟩ = false := by simp [go_sem, fp1]
      have cq0 := (grown_cell gs hzq (by omega)).trans cq0
      have cq1 := (grown_cell gs hzq (by omega)).trans cq1
      have fq0 := (grown_frozen gs hzq (by omega)).trans fq0
      have fq1 := (grown_frozen gs hzq (by omega)).trans fq1
      have hzr := Nat.lt_of_lt_of_le hzr gs.size
      have hzt := Nat.lt_of_lt_of_le hzt gs.size
      have hzp := Nat.lt_of_lt_of_le hzp gs.size
      have hzq := Nat.lt_of_lt_of_le hzq gs.size
      clear gs
      generalize (wn0.setCell ⟨w2.heap.size, 0, none⟩ (.int .i64 (wrap64 (1 - x0)))) = wm0 at *
      generalize wrap64 (1 - x0) = u0 at *
      go_wp2_with fail
      refine (l1In_any _ _ _ _).mono ?_
      rintro e w' ⟨rfl, rfl⟩
      cases hw1 : within x1 (-10) 0
      · go_wp2_with fail
        go_region
        all_goals
          go_wp2
          refine bodyPost_ret (v := .tuple #[.agg #[.int .i64 u0, .int .i64 y0], .agg #[.int .i64 x1, .int .i64 y1]]) (by simp [results, Try.results43, go_sem, *]) rfl ⟨_, _, _, _, rfl, ?_⟩
          repeat (first | exact HBm0.out | exact below_drewN HBm0.out 1 | refine bl_set ?_ (by first | omega | (simp; done) | (simp; omega)) _ | refine bl_alloc ?_ _ | refine Below.drew ?_)
      · go_wp2_with fail
        refine (one_any _ 18 _ 4 (by omega) (by omega) _ (by omega) Hm0.out).mono ?_
        rintro e wn1 ⟨o1, rfl, hc, hg⟩
        have cr0 := (grown_cell hg hzr (by omega)).trans cr0
        have cr1 := (grown_cell hg hzr (by omega)).trans cr1
        have fr0 := (grown_frozen hg hzr (by omega)).trans fr0
        have fr1 := (grown_frozen hg hzr (by omega)).trans fr1
        have hzr := Nat.lt_of_lt_of_le hzr hg.size
        have ct0 := (grown_cell hg hzt (by omega)).trans ct0
        have ct1 := (grown_cell hg hzt (by omega)).trans ct1
        have ft0 := (grown_frozen hg hzt (by omega)).trans ft0
        have ft1 := (grown_frozen hg hzt (by omega)).trans ft1
        have hzt := Nat.lt_of_lt_of_le hzt hg.size
        have cp0 := (grown_cell hg hzp (by omega)).trans cp0
        have cp1 := (grown_cell hg hzp (by omega)).trans cp1
        have fp0 := (grown_frozen hg hzp (by omega)).trans fp0
        have fp1 := (grown_frozen hg hzp (by omega)).trans fp1
        have hzp := Nat.lt_of_lt_of_le hzp hg.size
        have cq0 := (grown_cell hg hzq (by omega)).trans cq0
        have cq1 := (grown_cell hg hzq (by omega)).trans cq1
        have fq0 := (grown_frozen hg hzq (by omega)).trans fq0
        have fq1 := (grown_frozen hg hzq (by omega)).trans fq1
        have hzq := Nat.lt_of_lt_of_le hzq hg.size
        have HBn1 := Lib.hid (grown_below HBm0.out (by omega) hg)
        have Hn1 := Lib.hid hc
        have hqn1 := hc.1
        clear hc hg
        cases o1
        · go_wp2_with fail
          have gs := grown_set wn1 (w2.heap.size + 1) 0 (.int .i64 (wrap64 (1 - x1)))
          have Hm1 := Lib.hid (Hn1.out.kept gs (by omega))
          have HBm1 := Lib.hid (bl_set HBn1.out (by first | omega | (simp; omega)) (.int .i64 (wrap64 (1 - x1))) : Below w.heap.size w (wn1.setCell ⟨w2.heap.size + 1, 0, none⟩ (.int .i64 (wrap64 (1 - x1)))))
          have cr0 := (grown_cell gs hzr (by omega)).trans cr0
          have cr1 := (grown_cell gs hzr (by omega)).trans cr1
          have fr0 := (grown_frozen gs hzr (by omega)).trans fr0
          have fr1 := (grown_frozen gs hzr (by omega)).trans fr1
          have ct0 := (grown_cell gs hzt (by omega)).trans ct0
          have ct1 := (grown_cell gs hzt (by omega)).trans ct1
          have ft0 := (grown_frozen gs hzt (by omega)).trans ft0
          have ft1 := (grown_frozen gs hzt (by omega)).trans ft1
          have cp0 := (grown_cell gs hzp (by omega)).trans cp0
          have cp1 := (grown_cell gs hzp (by omega)).trans cp1
          have fp0 := (grown_frozen gs hzp (by omega)).trans fp0
          have fp1 := (grown_frozen gs hzp (by omega)).trans fp1
          have cq0 : (wn1.setCell ⟨w2.heap.size + 1, 0, none⟩ (.int .i64 (wrap64 (1 - x1)))).cell? ⟨(w2.heap.size + 1), 0, none⟩ = some (.int .i64 (wrap64 (1 - x1))) := by simp [go_sem, cq0, fq0]
          have cq1 : (wn1.setCell ⟨w2.heap.size + 1, 0, none⟩ (.int .i64 (wrap64 (1 - x1)))).cell? ⟨(w2.heap.size + 1), 1, none⟩ = some (.int .i64 y1) := by simp [go_sem, cq1]
          have fq0 : (wn1.setCell ⟨w2.heap.size + 1, 0, none⟩ (.int .i64 (wrap64 (1 - x1)))).frozen? ⟨(w2.heap.size + 1), 0, none⟩ = false := by simp [go_sem, fq0]
          have fq1 : (wn1.setCell ⟨w2.heap.size + 1, 0, none⟩ (.int .i64 (wrap64 (1 - x1)))).frozen? ⟨(w2.heap.size + 1), 1, none⟩ = false := by simp [go_sem, fq1]
          have hzr := Nat.lt_of_lt_of_le hzr gs.size
          have hzt := Nat.lt_of_lt_of_le hzt gs.size
          have hzp := Nat.lt_of_lt_of_le hzp gs.size
          have hzq := Nat.lt_of_lt_of_le hzq gs.size
          clear gs
          generalize (wn1.setCell ⟨w2.heap.size + 1, 0, none⟩ (.int .i64 (wrap64 (1 - x1)))) = wm1 at *
          generalize wrap64 (1 - x1) = u1 at *
          go_wp2_with fail
          go_region
          all_goals
            go_wp2
            refine bodyPost_ret (v := .tuple #[.agg #[.int .i64 u0, .int .i64 y0], .agg #[.int .i64 u1, .int .i64 y1]]) (by simp [results, Try.results43, go_sem, *]) rfl ⟨_, _, _, _, rfl, ?_⟩
            repeat (first | exact HBm1.out | exact below_drewN HBm1.out 1 | refine bl_set ?_ (by first | omega | (simp; done) | (simp; omega)) _ | refine bl_alloc ?_ _ | refine Below.drew ?_)
        · go_wp2_with fail
          go_region
          all_goals
            go_wp2
            refine bodyPost_ret (v := .tuple #[.agg #[.int .i64 u0, .int .i64 y0], .agg #[.int .i64 x1, .int .i64 y1]]) (by simp [results, Try.results43, go_sem, *]) rfl ⟨_, _, _, _, rfl, ?_⟩
            repeat (first | exact HBn1.out | exact below_drewN HBn1.out 1 | refine bl_set ?_ (by first | omega | (simp; done) | (simp; omega)) _ | refine bl_alloc ?_ _ | refine Below.drew ?_)
    · go_wp2_with fail
      refine (l1In_any _ _ _ _).mono ?_
      rintro e w' ⟨rfl, rfl⟩
      cases hw1 : within x1 (-10) 0
      · go_wp2_with fail
        go_region
        all_goals
          go_wp2
          refine bodyPost_ret (v := .tuple #[.agg #[.int .i64 x0, .int .i64 y0], .agg #[.int .i64 x1, .int .i64 y1]]) (by simp [results, Try.results43, go_sem, *]) rfl ⟨_, _, _, _, rfl, ?_⟩
          repeat (first | exact HBn0.out | exact below_drewN HBn0.out 1 | refine bl_set ?_ (by first | omega | (simp; done) | (simp; omega)) _ | refine bl_alloc ?_ _ | refine Below.drew ?_)
      · go_wp2_with fail
        refine (one_any _ 18 _ 4 (by omega) (by omega) _ (by omega) Hn0.out).mono ?_
        rintro e wn1 ⟨o1, rfl, hc, hg⟩
        have cr0 := (grown_cell hg hzr (by omega)).trans cr0
        have cr1 := (grown_cell hg hzr (by omega)).trans cr1
        have fr0 := (grown_frozen hg hzr (by omega)).trans fr0
        have fr1 := (grown_frozen hg hzr (by omega)).trans fr1
        have hzr := Nat.lt_of_lt_of_le hzr hg.size
        have ct0 := (grown_cell hg hzt (by omega)).trans ct0
        have ct1 := (grown_cell hg hzt (by omega)).trans ct1
        have ft0 := (grown_frozen hg hzt (by omega)).trans ft0
        have ft1 := (grown_frozen hg hzt (by omega)).trans ft1
        have hzt := Nat.lt_of_lt_of_le hzt hg.size
        have cp0 := (grown_cell hg hzp (by omega)).trans cp0
        have cp1 := (grown_cell hg hzp (by omega)).trans cp1
        have fp0 := (grown_frozen hg hzp (by omega)).trans fp0
        have fp1 := (grown_frozen hg hzp (by omega)).trans fp1
        have hzp := Nat.lt_of_lt_of_le hzp hg.size
        have cq0 := (grown_cell hg hzq (by omega)).trans cq0
        have cq1 := (grown_cell hg hzq (by omega)).trans cq1
        have fq0 := (grown_frozen hg hzq (by omega)).trans fq0
        have fq1 := (grown_frozen hg hzq (by omega)).trans fq1
        have hzq := Nat.lt_of_lt_of_le hzq hg.size
        have HBn1 := Lib.hid (grown_below HBn0.out (by omega) hg)
        have Hn1 := Lib.hid hc
        have hqn1 := hc.1
        clear hc hg
        cases o1
        · go_wp2_with fail
          have gs := grown_set wn1 (w2.heap.size + 1) 0 (.int .i64 (wrap64 (1 - x1)))
          have Hm1 := Lib.hid (Hn1.out.kept gs (by omega))
          have HBm1 := Lib.hid (bl_set HBn1.out (by first | omega | (simp; omega)) (.int .i64 (wrap64 (1 - x1))) : Below w.heap.size w (wn1.setCell ⟨w2.heap.size + 1, 0, none⟩ (.int .i64 (wrap64 (1 - x1)))))
          have cr0 := (grown_cell gs hzr (by omega)).trans cr0
          have cr1 := (grown_cell gs hzr (by omega)).trans cr1
          have fr0 := (grown_frozen gs hzr (by omega)).trans fr0
          have fr1 := (grown_frozen gs hzr (by omega)).trans fr1
          have ct0 := (grown_cell gs hzt (by omega)).trans ct0
          have ct1 := (grown_cell gs hzt (by omega)).trans ct1
          have ft0 := (grown_frozen gs hzt (by omega)).trans ft0
          have ft1 := (grown_frozen gs hzt (by omega)).trans ft1
          have cp0 := (grown_cell gs hzp (by omega)).trans cp0
          have cp1 := (grown_cell gs hzp (by omega)).trans cp1
          have fp0 := (grown_frozen gs hzp (by omega)).trans fp0
          have fp1 := (grown_frozen gs hzp (by omega)).trans fp1
          have cq0 : (wn1.setCell ⟨w2.heap.size + 1, 0, none⟩ (.int .i64 (wrap64 (1 - x1)))).cell? ⟨(w2.heap.size + 1), 0, none⟩ = some (.int .i64 (wrap64 (1 - x1))) := by simp [go_sem, cq0, fq0]
          have cq1 : (wn1.setCell ⟨w2.heap.size + 1, 0, none⟩ (.int .i64 (wrap64 (1 - x1)))).cell? ⟨(w2.heap.size + 1), 1, none⟩ = some (.int .i64 y1) := by simp [go_sem, cq1]
          have fq0 : (wn1.setCell ⟨w2.heap.size + 1, 0, none⟩ (.int .i64 (wrap64 (1 - x1)))).frozen? ⟨(w2.heap.size + 1), 0, none⟩ = false := by simp [go_sem, fq0]
          have fq1 : (wn1.setCell ⟨w2.heap.size + 1, 0, none⟩ (.int .i64 (wrap64 (1 - x1)))).frozen? ⟨(w2.heap.size + 1), 1, none⟩ = false := by simp [go_sem, fq1]
          have hzr := Nat.lt_of_lt_of_le hzr gs.size
          have hzt := Nat.lt_of_lt_of_le hzt gs.size
          have hzp := Nat.lt_of_lt_of_le hzp gs.size
          have hzq := Nat.lt_of_lt_of_le hzq gs.size
          clear gs
          generalize (wn1.setCell ⟨w2.heap.size + 1, 0, none⟩ (.int .i64 (wrap64 (1 - x1)))) = wm1 at *
          generalize wrap64 (1 - x1) = u1 at *
          go_wp2_with fail
          go_region
          all_goals
            go_wp2
            refine bodyPost_ret (v := .tuple #[.agg #[.int .i64 x0, .int .i64 y0], .agg #[.int .i64 u1, .int .i64 y1]]) (by simp [results, Try.results43, go_sem, *]) rfl ⟨_, _, _, _, rfl, ?_⟩
            repeat (first | exact HBm1.out | exact below_drewN HBm1.out 1 | refine bl_set ?_ (by first | omega | (simp; done) | (simp; omega)) _ | refine bl_alloc ?_ _ | refine Below.drew ?_)
        · go_wp2_with fail
          go_region
          all_goals
            go_wp2
            refine bodyPost_ret (v := .tuple #[.agg #[.int .i64 x0, .int .i64 y0], .agg #[.int .i64 x1, .int .i64 y1]]) (by simp [results, Try.results43, go_sem, *]) rfl ⟨_, _, _, _, rfl, ?_⟩
            repeat (first | exact HBn1.out | exact below_drewN HBn1.out 1 | refine bl_set ?_ (by first | omega | (simp; done) | (simp; omega)) _ | refine bl_alloc ?_ _ | refine Below.drew ?_)
set_option maxRecDepth 100000 in
set_option maxHeartbeats 4000000 in
theorem DrawOrderByCorner_any (v : Value) (w : World) (hv : Bytes w w.heap.size v) :
    Calls Try.prog 20 #[v] w fun e w' => ∃ x y z t : Int, e = .returned (.tuple #[.agg #[.int .i64 x, .int .i64 y], .agg #[.int .i64 z, .int .i64 t]]) ∧ Below w.heap.size w w' := by
  obtain ⟨a, n, c, rfl, hn⟩ := hv.shape
  have hb0 := bl_alloc (bl_alloc (Below.refl w.heap.size w) (.cells #[.int .i64 0, .int .i64 0] 25)) (.cells #[.int .i64 0, .int .i64 0] 25)
  have cr0 : ((w.alloc (.cells #[.int .i64 0, .int .i64 0] 25)).alloc (.cells #[.int .i64 0, .int .i64 0] 25)).cell? ⟨w.heap.size, 0, none⟩ = some (.int .i64 0) := by simp
  have cr1 : ((w.alloc (.cells #[.int .i64 0, .int .i64 0] 25)).alloc (.cells #[.int .i64 0, .int .i64 0] 25)).cell? ⟨w.heap.size, 1, none⟩ = some (.int .i64 0) := by simp
  have fr0 : ((w.alloc (.cells #[.int .i64 0, .int .i64 0] 25)).alloc (.cells #[.int .i64 0, .int .i64 0] 25)).frozen? ⟨w.heap.size, 0, none⟩ = false := by simp [go_sem]
  have fr1 : ((w.alloc (.cells #[.int .i64 0, .int .i64 0] 25)).alloc (.cells #[.int .i64 0, .int .i64 0] 25)).frozen? ⟨w.heap.size, 1, none⟩ = false := by simp [go_sem]
  have hzr : w.heap.size < ((w.alloc (.cells #[.int .i64 0, .int .i64 0] 25)).alloc (.cells #[.int .i64 0, .int .i64 0] 25)).heap.size := by first | (simp; done) | (simp; omega)
  have ct0 : ((w.alloc (.cells #[.int .i64 0, .int .i64 0] 25)).alloc (.cells #[.int .i64 0, .int .i64 0] 25)).cell? ⟨(w.heap.size + 1), 0, none⟩ = some (.int .i64 0) := by simp
  have ct1 : ((w.alloc (.cells #[.int .i64 0, .int .i64 0] 25)).alloc (.cells #[.int .i64 0, .int .i64 0] 25)).cell? ⟨(w.heap.size + 1), 1, none⟩ = some (.int .i64 0) := by simp
  have ft0 : ((w.alloc (.cells #[.int .i64 0, .int .i64 0] 25)).alloc (.cells #[.int .i64 0, .int .i64 0] 25)).frozen? ⟨(w.heap.size + 1), 0, none⟩ = false := by simp [go_sem]
  have ft1 : ((w.alloc (.cells #[.int .i64 0, .int .i64 0] 25)).alloc (.cells #[.int .i64 0, .int .i64 0] 25)).frozen? ⟨(w.heap.size + 1), 1, none⟩ = false := by simp [go_sem]
  have hzt : (w.heap.size + 1) < ((w.alloc (.cells #[.int .i64 0, .int .i64 0] 25)).alloc (.cells #[.int .i64 0, .int .i64 0] 25)).heap.size := by first | (simp; done) | (simp; omega)
  have hv1 : Bytes ((w.alloc (.cells #[.int .i64 0, .int .i64 0] 25)).alloc (.cells #[.int .i64 0, .int .i64 0] 25)) ((w.alloc (.cells #[.int .i64 0, .int .i64 0] 25)).alloc (.cells #[.int .i64 0, .int .i64 0] 25)).heap.size (.slice a n c) := Bytes.up hv hb0
  have HB0 := Lib.hid hb0
  clear hb0
  go_enter Try.func20, Try.ntmps20
  go_wp2_with fail
  generalize ((w.alloc (.cells #[.int .i64 0, .int .i64 0] 25)).alloc (.cells #[.int .i64 0, .int .i64 0] 25)) = w0 at *
  refine (DrawSquareByCorner_any _ _ hv1).mono ?_
  rintro e w1 ⟨x0, y0, x1, y1, rfl, hb⟩
  have cr0 := cell_after hb hzr cr0
  have cr1 := cell_after hb hzr cr1
  have fr0 := frozen_aft hb hzr fr0
  have fr1 := frozen_aft hb hzr fr1
  have hzr := Nat.lt_of_lt_of_le hzr hb.size
  have ct0 := cell_after hb hzt ct0
  have ct1 := cell_after hb hzt ct1
  have ft0 := frozen_aft hb hzt ft0
  have ft1 := frozen_aft hb hzt ft1
  have hzt := Nat.lt_of_lt_of_le hzt hb.size
  have HB1 := Lib.hid (bl_trans hb HB0.out)
  clear hb hv1
  go_wp2
  refine bodyPost_ret (v := .tuple #[.agg #[.int .i64 x0, .int .i64 y0], .agg #[.int .i64 x1, .int .i64 y1]]) (by simp [results, Try.results20, go_sem, *]) rfl ⟨_, _, _, _, rfl, ?_⟩
  repeat (first | exact HB1.out | exact below_drewN HB1.out 1 | refine bl_set ?_ (by first | omega | (simp; done) | (simp; omega)) _ | refine bl_alloc ?_ _ | refine Below.drew ?_)
set_option maxRecDepth 100000 in
set_option maxHeartbeats 8000000 in
theorem DrawHeightForTouch_any (v : Value) (w : World) (hv : Bytes w w.heap.size v) :
    Calls Try.prog 27 #[v] w fun e w' => ∃ x y z t : Int, e = .returned (.tuple #[.agg #[.int .i64 x, .int .i64 y], .int .i64 z, .int .i64 t]) ∧ Below w.heap.size w w' := by
  obtain ⟨a, n, c, rfl, hn⟩ := hv.shape
  have hb0 := bl_alloc (Below.refl w.heap.size w) (.cells #[.int .i64 0, .int .i64 0] 25)
  have cr0 : (w.alloc (.cells #[.int .i64 0, .int .i64 0] 25)).cell? ⟨w.heap.size, 0, none⟩ = some (.int .i64 0) := by simp
  have cr1 : (w.alloc (.cells #[.int .i64 0, .int .i64 0] 25)).cell? ⟨w.heap.size, 1, none⟩ = some (.int .i64 0) := by simp
  have fr0 : (w.alloc (.cells #[.int .i64 0, .int .i64 0] 25)).frozen? ⟨w.heap.size, 0, none⟩ = false := by simp [go_sem]
  have fr1 : (w.alloc (.cells #[.int .i64 0, .int .i64 0] 25)).frozen? ⟨w.heap.size, 1, none⟩ = false := by simp [go_sem]
  have hzr : w.heap.size < (w.alloc (.cells #[.int .i64 0, .int .i64 0] 25)).heap.size := by first | (simp; done) | (simp; omega)
  have hv1 : Bytes (w.alloc (.cells #[.int .i64 0, .int .i64 0] 25)) (w.alloc (.cells #[.int .i64 0, .int .i64 0] 25)).heap.size (.slice a n c) := Bytes.up hv hb0
  have hs0 : (w.alloc (.cells #[.int .i64 0, .int .i64 0] 25)).heap.size = w.heap.size + 1 := by simp
  have HB0 := Lib.hid hb0
  clear hb0
  go_enter Try.func27, Try.ntmps27
  go_wp2_with fail
  generalize (w.alloc (.cells #[.int .i64 0, .int .i64 0] 25)) = w0 at *
  obtain ⟨hc, hb⟩ := Cur.start hv1 62
  rw [hs0] at hc
  have H0 := Lib.hid hc
  have HB := Lib.hid (bl_trans hb HB0.out)
  have cr0 := cell_after hb hzr cr0
  have cr1 := cell_after hb hzr cr1
  have fr0 := frozen_aft hb hzr fr0
  have fr1 := frozen_aft hb hzr fr1
  have hzr := Nat.lt_of_lt_of_le hzr hb.size
  clear hc hb HB0 hs0 hv1
  generalize (w0.alloc (.cells #[.slice a n c, .int .i64 0, .int .u64 0] 62)) = wd at *
  refine (spot_any _ 0 _ _ (by omega) H0.out).mono ?_
  rintro e w1 ⟨x0, y0, rfl, hc, hg⟩
  have cr0 := (grown_cell hg hzr (by omega)).trans cr0
  have cr1 := (grown_cell hg hzr (by omega)).trans cr1
  have fr0 := (grown_frozen hg hzr (by omega)).trans fr0
  have fr1 := (grown_frozen hg hzr (by omega)).trans fr1
  have hzr := Nat.lt_of_lt_of_le hzr hg.size
  have HB1 := Lib.hid (grown_below HB.out (by omega) hg)
  have H1 := Lib.hid hc
  have hqw1 := hc.1
  clear hc hg
  obtain ⟨hca, hga⟩ := H1.out.alloc (.cells #[.int .i64 x0, .int .i64 y0] 25)
  have cr0 := (grown_cell hga hzr (by omega)).trans cr0
  have cr1 := (grown_cell hga hzr (by omega)).trans cr1
  have fr0 := (grown_frozen hga hzr (by omega)).trans fr0
  have fr1 := (grown_frozen hga hzr (by omega)).trans fr1
  have hzr := Nat.lt_of_lt_of_le hzr hga.size
  have HB2 := Lib.hid (bl_alloc HB1.out (.cells #[.int .i64 x0, .int .i64 y0] 25))
  have cp0 : (w1.alloc (.cells #[.int .i64 x0, .int .i64 y0] 25)).cell? ⟨w1.heap.size, 0, none⟩ = some (.int .i64 x0) := by simp
  have cp1 : (w1.alloc (.cells #[.int .i64 x0, .int .i64 y0] 25)).cell? ⟨w1.heap.size, 1, none⟩ = some (.int .i64 y0) := by simp
  have fp0 : (w1.alloc (.cells #[.int .i64 x0, .int .i64 y0] 25)).frozen? ⟨w1.heap.size, 0, none⟩ = false := by simp [go_sem]
  have fp1 : (w1.alloc (.cells #[.int .i64 x0, .int .i64 y0] 25)).frozen? ⟨w1.heap.size, 1, none⟩ = false := by simp [go_sem]
  have hzp : w1.heap.size < (w1.alloc (.cells #[.int .i64 x0, .int .i64 y0] 25)).heap.size := by first | (simp; done) | (simp; omega)
  have H2 := Lib.hid hca
  clear hca hga HB HB1 H0 H1
  go_wp2_with fail
  generalize (w1.alloc (.cells #[.int .i64 x0, .int .i64 y0] 25)) = w2 at *
  refine (one_any _ 8 _ 8 (by omega) (by omega) _ (by omega) H2.out).mono ?_
  rintro e w3 ⟨o3, rfl, hc, hg⟩
  have cr0 := (grown_cell hg hzr (by omega)).trans cr0
  have cr1 := (grown_cell hg hzr (by omega)).trans cr1
  have fr0 := (grown_frozen hg hzr (by omega)).trans fr0
  have fr1 := (grown_frozen hg hzr (by omega)).trans fr1
  have hzr := Nat.lt_of_lt_of_le hzr hg.size
  have cp0 := (grown_cell hg hzp (by omega)).trans cp0
  have cp1 := (grown_cell hg hzp (by omega)).trans cp1
  have fp0 := (grown_frozen hg hzp (by omega)).trans fp0
  have fp1 := (grown_frozen hg hzp (by omega)).trans fp1
  have hzp := Nat.lt_of_lt_of_le hzp hg.size
  have HB3 := Lib.hid (grown_below HB2.out (by omega) hg)
  have H3 := Lib.hid hc
  have hq3 := hc.1
  have hne : w.heap.size ≠ w1.heap.size := by omega
  clear hc hg HB2 H2
  have hS3 : St w (.slice a n c) w1.heap.size x0 y0 10 w3 := ⟨H3.out, hv, cp0, cp1, hzp, by omega, ⟨_, cr0⟩, ⟨_, cr1⟩, fr0, fr1, HB3.out⟩
  clear hv H3 HB3
  cases o3
  · go_wp2_with fail
    go_region_with (first | (have gg8 := hS8; go_at_call 51; refine (pick_any (w.heap.size + 1) 12 (.slice a n c) 30 (by omega) (by omega) _ (by omega) (St.cur (w := w) (cv := .slice a n c) (pp := w1.heap.size) (x := x0) (y := y0) (by (repeat (first | (with_reducible exact hS3) | (with_reducible exact hS9) | (with_reducible exact hS8) | (with_reducible refine St.drew ?_) | (with_reducible refine St.setr ?_ _ _) | (with_reducible refine St.alloc ?_ _))); done))).mono ?_; rintro e w9 ⟨s9, rfl, _, hc, hg⟩; have hS9 : St w (.slice a n c) w1.heap.size x0 y0 14 w9 := St.call (w := w) (cv := .slice a n c) (pp := w1.heap.size) (x := x0) (y := y0) (k := 12) (by (repeat (first | (with_reducible exact hS3) | (with_reducible exact hS9) | (with_reducible exact hS8) | (with_reducible refine St.drew ?_) | (with_reducible refine St.setr ?_ _ _) | (with_reducible refine St.alloc ?_ _))); done) hc hg; have xhS9p0 := hS9.p0; have xhS9p1 := hS9.p1; obtain ⟨vhS90, xhS9r0⟩ := hS9.r0; obtain ⟨vhS91, xhS9r1⟩ := hS9.r1; have xhS9f0 := hS9.f0; have xhS9f1 := hS9.f1; have xhS9hp := hS9.hp; have xhS9hq := hS9.hq; clear hc hg) | (go_at_call 51; refine (pick_any (w.heap.size + 1) 10 (.slice a n c) 30 (by omega) (by omega) _ (by omega) (St.cur (w := w) (cv := .slice a n c) (pp := w1.heap.size) (x := x0) (y := y0) (by (repeat (first | (with_reducible exact hS3) | (with_reducible exact hS9) | (with_reducible exact hS8) | (with_reducible refine St.drew ?_) | (with_reducible refine St.setr ?_ _ _) | (with_reducible refine St.alloc ?_ _))); done))).mono ?_; rintro e w8 ⟨s8, rfl, _, hc, hg⟩; have hS8 : St w (.slice a n c) w1.heap.size x0 y0 12 w8 := St.call (w := w) (cv := .slice a n c) (pp := w1.heap.size) (x := x0) (y := y0) (k := 10) (by (repeat (first | (with_reducible exact hS3) | (with_reducible exact hS9) | (with_reducible exact hS8) | (with_reducible refine St.drew ?_) | (with_reducible refine St.setr ?_ _ _) | (with_reducible refine St.alloc ?_ _))); done) hc hg; have xhS8p0 := hS8.p0; have xhS8p1 := hS8.p1; obtain ⟨vhS80, xhS8r0⟩ := hS8.r0; obtain ⟨vhS81, xhS8r1⟩ := hS8.r1; have xhS8f0 := hS8.f0; have xhS8f1 := hS8.f1; have xhS8hp := hS8.hp; have xhS8hq := hS8.hq; have hgz := hg.size; simp at hgz; have hgc := fun (g o : Nat) h1 h2 => grown_cell (g := g) (o := o) hg h1 h2; clear hc hg) | fail)
    all_goals
      go_wp2
      refine bodyPost_ret (v := .tuple #[.agg #[.int .i64 x0, .int .i64 y0], .int .i64 (IntKind.i64.wrap (s8 - 8)), .int .i64 (IntKind.i64.wrap (s9 - 8))]) (by simp [results, Try.results27, go_sem, *]) rfl ⟨_, _, _, _, rfl, ?_⟩
      exact St.below (cv := .slice a n c) (pp := w1.heap.size) (x := x0) (y := y0) (k := 14) (by (repeat (first | (with_reducible exact hS3) | (with_reducible exact hS9) | (with_reducible exact hS8) | (with_reducible refine St.drew ?_) | (with_reducible refine St.setr ?_ _ _) | (with_reducible refine St.alloc ?_ _))); done)
  · go_wp2_with fail
    go_region_with (first | (have gg8 := hS8; go_at_call 50; refine (among_any (w.heap.size + 1) 12 _ (.slice a n c) 5 (fun i => [-1001, -1000, 0, 1000, 1001].getD i 0) (by omega) (by omega) _ (by omega) (St.cur (w := w) (cv := .slice a n c) (pp := w1.heap.size) (x := x0) (y := y0) (by (repeat (first | (with_reducible exact hS3) | (with_reducible exact hS9) | (with_reducible exact hS8) | (with_reducible refine St.drew ?_) | (with_reducible refine St.setr ?_ _ _) | (with_reducible refine St.alloc ?_ _))); done)) (by first | (simp; done) | omega | (simp; omega)) (by omega) (fun i hi => by rcases (show i = 0 ∨ i = 1 ∨ i = 2 ∨ i = 3 ∨ i = 4 by omega) with rfl | rfl | rfl | rfl | rfl <;> first | (simp; done) | (rw [hgc _ _ (by first | (simp; done) | (simp; omega)) (by omega)]; simp; done))).mono ?_; rintro e w9 ⟨s9, rfl, hc, hg⟩; have hS9 : St w (.slice a n c) w1.heap.size x0 y0 14 w9 := St.call (w := w) (cv := .slice a n c) (pp := w1.heap.size) (x := x0) (y := y0) (k := 12) (by (repeat (first | (with_reducible exact hS3) | (with_reducible exact hS9) | (with_reducible exact hS8) | (with_reducible refine St.drew ?_) | (with_reducible refine St.setr ?_ _ _) | (with_reducible refine St.alloc ?_ _))); done) hc hg; have xhS9p0 := hS9.p0; have xhS9p1 := hS9.p1; obtain ⟨vhS90, xhS9r0⟩ := hS9.r0; obtain ⟨vhS91, xhS9r1⟩ := hS9.r1; have xhS9f0 := hS9.f0; have xhS9f1 := hS9.f1; have xhS9hp := hS9.hp; have xhS9hq := hS9.hq; clear hc hg) | (go_at_call 50; refine (among_any (w.heap.size + 1) 10 _ (.slice a n c) 4 (fun i => [-1001, -1000, 1000, 1001].getD i 0) (by omega) (by omega) _ (by omega) (St.cur (w := w) (cv := .slice a n c) (pp := w1.heap.size) (x := x0) (y := y0) (by (repeat (first | (with_reducible exact hS3) | (with_reducible exact hS9) | (with_reducible exact hS8) | (with_reducible refine St.drew ?_) | (with_reducible refine St.setr ?_ _ _) | (with_reducible refine St.alloc ?_ _))); done)) (by first | (simp; done) | omega | (simp; omega)) (by omega) (fun i hi => by rcases (show i = 0 ∨ i = 1 ∨ i = 2 ∨ i = 3 by omega) with rfl | rfl | rfl | rfl <;> first | (simp; done) | (rw [hgc _ _ (by first | (simp; done) | (simp; omega)) (by omega)]; simp; done))).mono ?_; rintro e w8 ⟨s8, rfl, hc, hg⟩; have hS8 : St w (.slice a n c) w1.heap.size x0 y0 12 w8 := St.call (w := w) (cv := .slice a n c) (pp := w1.heap.size) (x := x0) (y := y0) (k := 10) (by (repeat (first | (with_reducible exact hS3) | (with_reducible exact hS9) | (with_reducible exact hS8) | (with_reducible refine St.drew ?_) | (with_reducible refine St.setr ?_ _ _) | (with_reducible refine St.alloc ?_ _))); done) hc hg; have xhS8p0 := hS8.p0; have xhS8p1 := hS8.p1; obtain ⟨vhS80, xhS8r0⟩ := hS8.r0; obtain ⟨vhS81, xhS8r1⟩ := hS8.r1; have xhS8f0 := hS8.f0; have xhS8f1 := hS8.f1; have xhS8hp := hS8.hp; have xhS8hq := hS8.hq; have hgz := hg.size; simp at hgz; have hgc := fun (g o : Nat) h1 h2 => grown_cell (g := g) (o := o) hg h1 h2; clear hc hg) | fail)
    all_goals
      go_wp2
      refine bodyPost_ret (v := .tuple #[.agg #[.int .i64 x0, .int .i64 y0], .int .i64 (s8), .int .i64 (s9)]) (by simp [results, Try.results27, go_sem, *]) rfl ⟨_, _, _, _, rfl, ?_⟩
      exact St.below (cv := .slice a n c) (pp := w1.heap.size) (x := x0) (y := y0) (k := 14) (by (repeat (first | (with_reducible exact hS3) | (with_reducible exact hS9) | (with_reducible exact hS8) | (with_reducible refine St.drew ?_) | (with_reducible refine St.setr ?_ _ _) | (with_reducible refine St.alloc ?_ _))); done)
end Go.Proofs.Ytbnkigponkelpaa

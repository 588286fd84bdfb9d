/- What is drawn for chapter 6: walkers, with lamps. -/
import Derived.Test.YtfnamahdofigaaaDRW
import Derived.Deep.RegionHeld3
namespace Go.Proofs.Ytfnamahdofigaaa
open Go.RowKit
set_option linter.unusedVariables false
set_option linter.unusedSimpArgs false
set_option maxRecDepth 100000 in
set_option maxHeartbeats 16000000 in
theorem DrawTipsMeet_any (v : Value) (w : World) (hv : Bytes w w.heap.size v) :
    Calls Try.prog 6 #[v] w fun e w' => ∃ l x y z x9 y9 z9 : Int, e = .returned (.tuple #[.int .i64 l, .agg #[.int .i64 x, .int .i64 y, .int .i64 z], .agg #[.int .i64 x9, .int .i64 y9, .int .i64 z9]]) ∧ Below w.heap.size w w' := by
  obtain ⟨a, n, c, rfl, hn⟩ := hv.shape
  have hb0 := bl_alloc (bl_alloc (Below.refl w.heap.size w) (.cells #[.int .i64 0, .int .i64 0, .int .i64 0] 25)) (.cells #[.int .i64 0, .int .i64 0, .int .i64 0] 25)
  have cr0 : ((w.alloc (.cells #[.int .i64 0, .int .i64 0, .int .i64 0] 25)).alloc (.cells #[.int .i64 0, .int .i64 0, .int .i64 0] 25)).cell? ⟨w.heap.size, 0, none⟩ = some (.int .i64 0) := by simp
  have cr1 : ((w.alloc (.cells #[.int .i64 0, .int .i64 0, .int .i64 0] 25)).alloc (.cells #[.int .i64 0, .int .i64 0, .int .i64 0] 25)).cell? ⟨w.heap.size, 1, none⟩ = some (.int .i64 0) := by simp
  have cr2 : ((w.alloc (.cells #[.int .i64 0, .int .i64 0, .int .i64 0] 25)).alloc (.cells #[.int .i64 0, .int .i64 0, .int .i64 0] 25)).cell? ⟨w.heap.size, 2, none⟩ = some (.int .i64 0) := by simp
  have fr0 : ((w.alloc (.cells #[.int .i64 0, .int .i64 0, .int .i64 0] 25)).alloc (.cells #[.int .i64 0, .int .i64 0, .int .i64 0] 25)).frozen? ⟨w.heap.size, 0, none⟩ = false := by simp [go_sem]
  have fr1 : ((w.alloc (.cells #[.int .i64 0, .int .i64 0, .int .i64 0] 25)).alloc (.cells #[.int .i64 0, .int .i64 0, .int .i64 0] 25)).frozen? ⟨w.heap.size, 1, none⟩ = false := by simp [go_sem]
  have fr2 : ((w.alloc (.cells #[.int .i64 0, .int .i64 0, .int .i64 0] 25)).alloc (.cells #[.int .i64 0, .int .i64 0, .int .i64 0] 25)).frozen? ⟨w.heap.size, 2, none⟩ = false := by simp [go_sem]
  have hzr : w.heap.size < ((w.alloc (.cells #[.int .i64 0, .int .i64 0, .int .i64 0] 25)).alloc (.cells #[.int .i64 0, .int .i64 0, .int .i64 0] 25)).heap.size := by first | (simp; done) | (simp; omega)
  have ct0 : ((w.alloc (.cells #[.int .i64 0, .int .i64 0, .int .i64 0] 25)).alloc (.cells #[.int .i64 0, .int .i64 0, .int .i64 0] 25)).cell? ⟨(w.heap.size + 1), 0, none⟩ = some (.int .i64 0) := by simp
  have ct1 : ((w.alloc (.cells #[.int .i64 0, .int .i64 0, .int .i64 0] 25)).alloc (.cells #[.int .i64 0, .int .i64 0, .int .i64 0] 25)).cell? ⟨(w.heap.size + 1), 1, none⟩ = some (.int .i64 0) := by simp
  have ct2 : ((w.alloc (.cells #[.int .i64 0, .int .i64 0, .int .i64 0] 25)).alloc (.cells #[.int .i64 0, .int .i64 0, .int .i64 0] 25)).cell? ⟨(w.heap.size + 1), 2, none⟩ = some (.int .i64 0) := by simp
  have ft0 : ((w.alloc (.cells #[.int .i64 0, .int .i64 0, .int .i64 0] 25)).alloc (.cells #[.int .i64 0, .int .i64 0, .int .i64 0] 25)).frozen? ⟨(w.heap.size + 1), 0, none⟩ = false := by simp [go_sem]
  have ft1 : ((w.alloc (.cells #[.int .i64 0, .int .i64 0, .int .i64 0] 25)).alloc (.cells #[.int .i64 0, .int .i64 0, .int .i64 0] 25)).frozen? ⟨(w.heap.size + 1), 1, none⟩ = false := by simp [go_sem]
  have ft2 : ((w.alloc (.cells #[.int .i64 0, .int .i64 0, .int .i64 0] 25)).alloc (.cells #[.int .i64 0, .int .i64 0, .int .i64 0] 25)).frozen? ⟨(w.heap.size + 1), 2, none⟩ = false := by simp [go_sem]
  have hzt : (w.heap.size + 1) < ((w.alloc (.cells #[.int .i64 0, .int .i64 0, .int .i64 0] 25)).alloc (.cells #[.int .i64 0, .int .i64 0, .int .i64 0] 25)).heap.size := by first | (simp; done) | (simp; omega)
  have hv1 : Bytes ((w.alloc (.cells #[.int .i64 0, .int .i64 0, .int .i64 0] 25)).alloc (.cells #[.int .i64 0, .int .i64 0, .int .i64 0] 25)) ((w.alloc (.cells #[.int .i64 0, .int .i64 0, .int .i64 0] 25)).alloc (.cells #[.int .i64 0, .int .i64 0, .int .i64 0] 25)).heap.size (.slice a n c) := Bytes.up hv hb0
  have hs0 : ((w.alloc (.cells #[.int .i64 0, .int .i64 0, .int .i64 0] 25)).alloc (.cells #[.int .i64 0, .int .i64 0, .int .i64 0] 25)).heap.size = w.heap.size + 2 := by simp
  have HB0 := Lib.hid hb0
  clear hb0
  go_enter Try.func6, Try.ntmps6
  go_wp2_with fail
  generalize ((w.alloc (.cells #[.int .i64 0, .int .i64 0, .int .i64 0] 25)).alloc (.cells #[.int .i64 0, .int .i64 0, .int .i64 0] 25)) = w0 at *
  obtain ⟨hc, hb⟩ := Cur.start hv1 50
  rw [hs0] at hc
  have H0 := Lib.hid hc
  have HB := Lib.hid (bl_trans hb HB0.out)
  have cr0 := cell_after hb hzr cr0
  have cr1 := cell_after hb hzr cr1
  have cr2 := cell_after hb hzr cr2
  have fr0 := frozen_aft hb hzr fr0
  have fr1 := frozen_aft hb hzr fr1
  have fr2 := frozen_aft hb hzr fr2
  have hzr := Nat.lt_of_lt_of_le hzr hb.size
  have ct0 := cell_after hb hzt ct0
  have ct1 := cell_after hb hzt ct1
  have ct2 := cell_after hb hzt ct2
  have ft0 := frozen_aft hb hzt ft0
  have ft1 := frozen_aft hb hzt ft1
  have ft2 := frozen_aft hb hzt ft2
  have hzt := Nat.lt_of_lt_of_le hzt hb.size
  clear hc hb HB0 hs0 hv1
  generalize (w0.alloc (.cells #[.slice a n c, .int .i64 0, .int .u64 0] 50)) = wd at *
  refine (lamp_any _ 0 _ _ (by omega) H0.out).mono ?_
  rintro e wl ⟨l, rfl, hc, hg⟩
  have cr0 := (grown_cell hg hzr (by omega)).trans cr0
  have cr1 := (grown_cell hg hzr (by omega)).trans cr1
  have cr2 := (grown_cell hg hzr (by omega)).trans cr2
  have fr0 := (grown_frozen hg hzr (by omega)).trans fr0
  have fr1 := (grown_frozen hg hzr (by omega)).trans fr1
  have fr2 := (grown_frozen hg hzr (by omega)).trans fr2
  have hzr := Nat.lt_of_lt_of_le hzr hg.size
  have ct0 := (grown_cell hg hzt (by omega)).trans ct0
  have ct1 := (grown_cell hg hzt (by omega)).trans ct1
  have ct2 := (grown_cell hg hzt (by omega)).trans ct2
  have ft0 := (grown_frozen hg hzt (by omega)).trans ft0
  have ft1 := (grown_frozen hg hzt (by omega)).trans ft1
  have ft2 := (grown_frozen hg hzt (by omega)).trans ft2
  have hzt := Nat.lt_of_lt_of_le hzt hg.size
  have HBl := Lib.hid (grown_below HB.out (by omega) hg)
  have Hl := Lib.hid hc
  clear hc hg HB H0
  go_wp2_with fail
  refine (walker_any _ 4 _ _ (by omega) Hl.out).mono ?_
  rintro e wa0 ⟨x0, y0, z0, rfl, hc, hg⟩
  have cr0 := (grown_cell hg hzr (by omega)).trans cr0
  have cr1 := (grown_cell hg hzr (by omega)).trans cr1
  have cr2 := (grown_cell hg hzr (by omega)).trans cr2
  have fr0 := (grown_frozen hg hzr (by omega)).trans fr0
  have fr1 := (grown_frozen hg hzr (by omega)).trans fr1
  have fr2 := (grown_frozen hg hzr (by omega)).trans fr2
  have hzr := Nat.lt_of_lt_of_le hzr hg.size
  have ct0 := (grown_cell hg hzt (by omega)).trans ct0
  have ct1 := (grown_cell hg hzt (by omega)).trans ct1
  have ct2 := (grown_cell hg hzt (by omega)).trans ct2
  have ft0 := (grown_frozen hg hzt (by omega)).trans ft0
  have ft1 := (grown_frozen hg hzt (by omega)).trans ft1
  have ft2 := (grown_frozen hg hzt (by omega)).trans ft2
  have hzt := Nat.lt_of_lt_of_le hzt hg.size
  have HA0 := Lib.hid (grown_below HBl.out (by omega) hg)
  obtain ⟨hca, hga⟩ := hc.alloc (.cells #[.int .i64 x0, .int .i64 y0, .int .i64 z0] 25)
  have hq0 := hc.1
  have hne0r : w.heap.size ≠ wa0.heap.size := by omega
  have hne0t : (w.heap.size + 1) ≠ wa0.heap.size := by omega
  have nb0 : wa0.heap.size ≠ w.heap.size + 2 := by omega
  have cr0 := (grown_cell hga hzr (by omega)).trans cr0
  have cr1 := (grown_cell hga hzr (by omega)).trans cr1
  have cr2 := (grown_cell hga hzr (by omega)).trans cr2
  have fr0 := (grown_frozen hga hzr (by omega)).trans fr0
  have fr1 := (grown_frozen hga hzr (by omega)).trans fr1
  have fr2 := (grown_frozen hga hzr (by omega)).trans fr2
  have hzr := Nat.lt_of_lt_of_le hzr hga.size
  have ct0 := (grown_cell hga hzt (by omega)).trans ct0
  have ct1 := (grown_cell hga hzt (by omega)).trans ct1
  have ct2 := (grown_cell hga hzt (by omega)).trans ct2
  have ft0 := (grown_frozen hga hzt (by omega)).trans ft0
  have ft1 := (grown_frozen hga hzt (by omega)).trans ft1
  have ft2 := (grown_frozen hga hzt (by omega)).trans ft2
  have hzt := Nat.lt_of_lt_of_le hzt hga.size
  have HB0 := Lib.hid (bl_alloc HA0.out (.cells #[.int .i64 x0, .int .i64 y0, .int .i64 z0] 25))
  have cp00 : (wa0.alloc (.cells #[.int .i64 x0, .int .i64 y0, .int .i64 z0] 25)).cell? ⟨wa0.heap.size, 0, none⟩ = some (.int .i64 x0) := by simp
  have cp01 : (wa0.alloc (.cells #[.int .i64 x0, .int .i64 y0, .int .i64 z0] 25)).cell? ⟨wa0.heap.size, 1, none⟩ = some (.int .i64 y0) := by simp
  have cp02 : (wa0.alloc (.cells #[.int .i64 x0, .int .i64 y0, .int .i64 z0] 25)).cell? ⟨wa0.heap.size, 2, none⟩ = some (.int .i64 z0) := by simp
  have fp00 : (wa0.alloc (.cells #[.int .i64 x0, .int .i64 y0, .int .i64 z0] 25)).frozen? ⟨wa0.heap.size, 0, none⟩ = false := by simp [go_sem]
  have fp01 : (wa0.alloc (.cells #[.int .i64 x0, .int .i64 y0, .int .i64 z0] 25)).frozen? ⟨wa0.heap.size, 1, none⟩ = false := by simp [go_sem]
  have fp02 : (wa0.alloc (.cells #[.int .i64 x0, .int .i64 y0, .int .i64 z0] 25)).frozen? ⟨wa0.heap.size, 2, none⟩ = false := by simp [go_sem]
  have hzp0 : wa0.heap.size < (wa0.alloc (.cells #[.int .i64 x0, .int .i64 y0, .int .i64 z0] 25)).heap.size := by first | (simp; done) | (simp; omega)
  have HC0 := Lib.hid hca
  have hcb := hca
  clear hc hg hca hga HA0
  go_wp2_with fail
  generalize (wa0.alloc (.cells #[.int .i64 x0, .int .i64 y0, .int .i64 z0] 25)) = wb0 at *
  have HN := Lib.hid (⟨hcb, bytes_grown hv (fun g o hg => (bcell HB0.out).1 g o hg)⟩ : CurN w.heap.size wb0 (w.heap.size + 2) (.slice a n c) 14)
  clear hcb hv HBl Hl HC0
  clear fp00 fp01 fp02
  have hS0 : wb0.drew.cell? ⟨wa0.heap.size, 0, none⟩ = some (.int .i64 x0) ∧ wb0.drew.cell? ⟨wa0.heap.size, 1, none⟩ = some (.int .i64 y0) ∧ wb0.drew.cell? ⟨wa0.heap.size, 2, none⟩ = some (.int .i64 z0) := ⟨cp00, cp01, cp02⟩
  go_region_held3 (fun w' => w'.cell? ⟨wa0.heap.size, 0, none⟩ = some (.int .i64 x0) ∧ w'.cell? ⟨wa0.heap.size, 1, none⟩ = some (.int .i64 y0) ∧ w'.cell? ⟨wa0.heap.size, 2, none⟩ = some (.int .i64 z0)) ((first | with_reducible exact hS0 | ((with_reducible refine K1_set ?_ (K1_set ?_ (K1_set ?_ ?_))); all_goals first | omega | assumption) | ((with_reducible refine K1_grown hg9 ?_ ?_ ?_); all_goals first | omega | (simp; omega) | assumption) | fail)) ((go_at_call 26; refine (walker_any _ 14 _ _ (by omega) (CurN.fst (N := w.heap.size) (by repeat (first | exact HN.out | refine CurN.set ?_ (by omega) (by omega) | refine CurN.drew ?_)))).mono ?_; rintro e w9 ⟨x9, y9, z9, rfl, hc9, hg9⟩; have xz := hg9.size; simp at xz; have xr0 := (grown_cell (g := w.heap.size) (o := 0) hg9 (by first | omega | (simp; omega)) (by omega)).trans (by first | exact cr0 | (simp [go_sem, *]; rfl)); have xr1 := (grown_cell (g := w.heap.size) (o := 1) hg9 (by first | omega | (simp; omega)) (by omega)).trans (by first | exact cr1 | (simp [go_sem, *]; rfl)); have xr2 := (grown_cell (g := w.heap.size) (o := 2) hg9 (by first | omega | (simp; omega)) (by omega)).trans (by first | exact cr2 | (simp [go_sem, *]; rfl)); have yr0 := (grown_frozen (g := w.heap.size) (o := 0) hg9 (by first | omega | (simp; omega)) (by omega)).trans (by first | exact fr0 | (simp [go_sem, *]; done)); have yr1 := (grown_frozen (g := w.heap.size) (o := 1) hg9 (by first | omega | (simp; omega)) (by omega)).trans (by first | exact fr1 | (simp [go_sem, *]; done)); have yr2 := (grown_frozen (g := w.heap.size) (o := 2) hg9 (by first | omega | (simp; omega)) (by omega)).trans (by first | exact fr2 | (simp [go_sem, *]; done)); have xt0 := (grown_cell (g := (w.heap.size + 1)) (o := 0) hg9 (by first | omega | (simp; omega)) (by omega)).trans (by first | exact ct0 | (simp [go_sem, *]; rfl)); have xt1 := (grown_cell (g := (w.heap.size + 1)) (o := 1) hg9 (by first | omega | (simp; omega)) (by omega)).trans (by first | exact ct1 | (simp [go_sem, *]; rfl)); have xt2 := (grown_cell (g := (w.heap.size + 1)) (o := 2) hg9 (by first | omega | (simp; omega)) (by omega)).trans (by first | exact ct2 | (simp [go_sem, *]; rfl)); have yt0 := (grown_frozen (g := (w.heap.size + 1)) (o := 0) hg9 (by first | omega | (simp; omega)) (by omega)).trans (by first | exact ft0 | (simp [go_sem, *]; done)); have yt1 := (grown_frozen (g := (w.heap.size + 1)) (o := 1) hg9 (by first | omega | (simp; omega)) (by omega)).trans (by first | exact ft1 | (simp [go_sem, *]; done)); have yt2 := (grown_frozen (g := (w.heap.size + 1)) (o := 2) hg9 (by first | omega | (simp; omega)) (by omega)).trans (by first | exact ft2 | (simp [go_sem, *]; done))))
  all_goals
    go_wp2
    refine bodyPost_ret (v := .tuple #[.int .i64 l, .agg #[.int .i64 x0, .int .i64 y0, .int .i64 z0], .agg #[.int .i64 x9, .int .i64 y9, .int .i64 z9]]) (by simp [results, Try.results6, go_sem, *]) rfl ⟨_, _, _, _, _, _, _, rfl, ?_⟩
    repeat (first | (with_reducible refine bl_set ?_ (by first | omega | (simp; done) | (simp; omega)) _) | (with_reducible refine grown_below ?_ ?_ hg9) | exact HB0.out | exact below_drewN HB0.out 1 | omega)
set_option maxRecDepth 100000 in
set_option maxHeartbeats 16000000 in
theorem DrawIsInShadow_any (v : Value) (w : World) (hv : Bytes w w.heap.size v) :
    Calls Try.prog 13 #[v] w fun e w' => ∃ l x y z x9 y9 z9 m : Int, e = .returned (.tuple #[.int .i64 l, .agg #[.int .i64 x, .int .i64 y, .int .i64 z], .agg #[.int .i64 x9, .int .i64 y9, .int .i64 z9], .int .i64 m]) ∧ Below w.heap.size w w' := by
  obtain ⟨a, n, c, rfl, hn⟩ := hv.shape
  have hb0 := bl_alloc (bl_alloc (Below.refl w.heap.size w) (.cells #[.int .i64 0, .int .i64 0, .int .i64 0] 25)) (.cells #[.int .i64 0, .int .i64 0, .int .i64 0] 25)
  have cr0 : ((w.alloc (.cells #[.int .i64 0, .int .i64 0, .int .i64 0] 25)).alloc (.cells #[.int .i64 0, .int .i64 0, .int .i64 0] 25)).cell? ⟨w.heap.size, 0, none⟩ = some (.int .i64 0) := by simp
  have cr1 : ((w.alloc (.cells #[.int .i64 0, .int .i64 0, .int .i64 0] 25)).alloc (.cells #[.int .i64 0, .int .i64 0, .int .i64 0] 25)).cell? ⟨w.heap.size, 1, none⟩ = some (.int .i64 0) := by simp
  have cr2 : ((w.alloc (.cells #[.int .i64 0, .int .i64 0, .int .i64 0] 25)).alloc (.cells #[.int .i64 0, .int .i64 0, .int .i64 0] 25)).cell? ⟨w.heap.size, 2, none⟩ = some (.int .i64 0) := by simp
  have fr0 : ((w.alloc (.cells #[.int .i64 0, .int .i64 0, .int .i64 0] 25)).alloc (.cells #[.int .i64 0, .int .i64 0, .int .i64 0] 25)).frozen? ⟨w.heap.size, 0, none⟩ = false := by simp [go_sem]
  have fr1 : ((w.alloc (.cells #[.int .i64 0, .int .i64 0, .int .i64 0] 25)).alloc (.cells #[.int .i64 0, .int .i64 0, .int .i64 0] 25)).frozen? ⟨w.heap.size, 1, none⟩ = false := by simp [go_sem]
  have fr2 : ((w.alloc (.cells #[.int .i64 0, .int .i64 0, .int .i64 0] 25)).alloc (.cells #[.int .i64 0, .int .i64 0, .int .i64 0] 25)).frozen? ⟨w.heap.size, 2, none⟩ = false := by simp [go_sem]
  have hzr : w.heap.size < ((w.alloc (.cells #[.int .i64 0, .int .i64 0, .int .i64 0] 25)).alloc (.cells #[.int .i64 0, .int .i64 0, .int .i64 0] 25)).heap.size := by first | (simp; done) | (simp; omega)
  have ct0 : ((w.alloc (.cells #[.int .i64 0, .int .i64 0, .int .i64 0] 25)).alloc (.cells #[.int .i64 0, .int .i64 0, .int .i64 0] 25)).cell? ⟨(w.heap.size + 1), 0, none⟩ = some (.int .i64 0) := by simp
  have ct1 : ((w.alloc (.cells #[.int .i64 0, .int .i64 0, .int .i64 0] 25)).alloc (.cells #[.int .i64 0, .int .i64 0, .int .i64 0] 25)).cell? ⟨(w.heap.size + 1), 1, none⟩ = some (.int .i64 0) := by simp
  have ct2 : ((w.alloc (.cells #[.int .i64 0, .int .i64 0, .int .i64 0] 25)).alloc (.cells #[.int .i64 0, .int .i64 0, .int .i64 0] 25)).cell? ⟨(w.heap.size + 1), 2, none⟩ = some (.int .i64 0) := by simp
  have ft0 : ((w.alloc (.cells #[.int .i64 0, .int .i64 0, .int .i64 0] 25)).alloc (.cells #[.int .i64 0, .int .i64 0, .int .i64 0] 25)).frozen? ⟨(w.heap.size + 1), 0, none⟩ = false := by simp [go_sem]
  have ft1 : ((w.alloc (.cells #[.int .i64 0, .int .i64 0, .int .i64 0] 25)).alloc (.cells #[.int .i64 0, .int .i64 0, .int .i64 0] 25)).frozen? ⟨(w.heap.size + 1), 1, none⟩ = false := by simp [go_sem]
  have ft2 : ((w.alloc (.cells #[.int .i64 0, .int .i64 0, .int .i64 0] 25)).alloc (.cells #[.int .i64 0, .int .i64 0, .int .i64 0] 25)).frozen? ⟨(w.heap.size + 1), 2, none⟩ = false := by simp [go_sem]
  have hzt : (w.heap.size + 1) < ((w.alloc (.cells #[.int .i64 0, .int .i64 0, .int .i64 0] 25)).alloc (.cells #[.int .i64 0, .int .i64 0, .int .i64 0] 25)).heap.size := by first | (simp; done) | (simp; omega)
  have hv1 : Bytes ((w.alloc (.cells #[.int .i64 0, .int .i64 0, .int .i64 0] 25)).alloc (.cells #[.int .i64 0, .int .i64 0, .int .i64 0] 25)) ((w.alloc (.cells #[.int .i64 0, .int .i64 0, .int .i64 0] 25)).alloc (.cells #[.int .i64 0, .int .i64 0, .int .i64 0] 25)).heap.size (.slice a n c) := Bytes.up hv hb0
  have hs0 : ((w.alloc (.cells #[.int .i64 0, .int .i64 0, .int .i64 0] 25)).alloc (.cells #[.int .i64 0, .int .i64 0, .int .i64 0] 25)).heap.size = w.heap.size + 2 := by simp
  have HB0 := Lib.hid hb0
  clear hb0
  go_enter Try.func13, Try.ntmps13
  go_wp2_with fail
  generalize ((w.alloc (.cells #[.int .i64 0, .int .i64 0, .int .i64 0] 25)).alloc (.cells #[.int .i64 0, .int .i64 0, .int .i64 0] 25)) = w0 at *
  obtain ⟨hc, hb⟩ := Cur.start hv1 50
  rw [hs0] at hc
  have H0 := Lib.hid hc
  have HB := Lib.hid (bl_trans hb HB0.out)
  have cr0 := cell_after hb hzr cr0
  have cr1 := cell_after hb hzr cr1
  have cr2 := cell_after hb hzr cr2
  have fr0 := frozen_aft hb hzr fr0
  have fr1 := frozen_aft hb hzr fr1
  have fr2 := frozen_aft hb hzr fr2
  have hzr := Nat.lt_of_lt_of_le hzr hb.size
  have ct0 := cell_after hb hzt ct0
  have ct1 := cell_after hb hzt ct1
  have ct2 := cell_after hb hzt ct2
  have ft0 := frozen_aft hb hzt ft0
  have ft1 := frozen_aft hb hzt ft1
  have ft2 := frozen_aft hb hzt ft2
  have hzt := Nat.lt_of_lt_of_le hzt hb.size
  clear hc hb HB0 hs0 hv1
  generalize (w0.alloc (.cells #[.slice a n c, .int .i64 0, .int .u64 0] 50)) = wd at *
  refine (lamp_any _ 0 _ _ (by omega) H0.out).mono ?_
  rintro e wl ⟨l, rfl, hc, hg⟩
  have cr0 := (grown_cell hg hzr (by omega)).trans cr0
  have cr1 := (grown_cell hg hzr (by omega)).trans cr1
  have cr2 := (grown_cell hg hzr (by omega)).trans cr2
  have fr0 := (grown_frozen hg hzr (by omega)).trans fr0
  have fr1 := (grown_frozen hg hzr (by omega)).trans fr1
  have fr2 := (grown_frozen hg hzr (by omega)).trans fr2
  have hzr := Nat.lt_of_lt_of_le hzr hg.size
  have ct0 := (grown_cell hg hzt (by omega)).trans ct0
  have ct1 := (grown_cell hg hzt (by omega)).trans ct1
  have ct2 := (grown_cell hg hzt (by omega)).trans ct2
  have ft0 := (grown_frozen hg hzt (by omega)).trans ft0
  have ft1 := (grown_frozen hg hzt (by omega)).trans ft1
  have ft2 := (grown_frozen hg hzt (by omega)).trans ft2
  have hzt := Nat.lt_of_lt_of_le hzt hg.size
  have HBl := Lib.hid (grown_below HB.out (by omega) hg)
  have Hl := Lib.hid hc
  clear hc hg HB H0
  go_wp2_with fail
  refine (walker_any _ 4 _ _ (by omega) Hl.out).mono ?_
  rintro e wa0 ⟨x0, y0, z0, rfl, hc, hg⟩
  have cr0 := (grown_cell hg hzr (by omega)).trans cr0
  have cr1 := (grown_cell hg hzr (by omega)).trans cr1
  have cr2 := (grown_cell hg hzr (by omega)).trans cr2
  have fr0 := (grown_frozen hg hzr (by omega)).trans fr0
  have fr1 := (grown_frozen hg hzr (by omega)).trans fr1
  have fr2 := (grown_frozen hg hzr (by omega)).trans fr2
  have hzr := Nat.lt_of_lt_of_le hzr hg.size
  have ct0 := (grown_cell hg hzt (by omega)).trans ct0
  have ct1 := (grown_cell hg hzt (by omega)).trans ct1
  have ct2 := (grown_cell hg hzt (by omega)).trans ct2
  have ft0 := (grown_frozen hg hzt (by omega)).trans ft0
  have ft1 := (grown_frozen hg hzt (by omega)).trans ft1
  have ft2 := (grown_frozen hg hzt (by omega)).trans ft2
  have hzt := Nat.lt_of_lt_of_le hzt hg.size
  have HA0 := Lib.hid (grown_below HBl.out (by omega) hg)
  obtain ⟨hca, hga⟩ := hc.alloc (.cells #[.int .i64 x0, .int .i64 y0, .int .i64 z0] 25)
  have hq0 := hc.1
  have hne0r : w.heap.size ≠ wa0.heap.size := by omega
  have hne0t : (w.heap.size + 1) ≠ wa0.heap.size := by omega
  have nb0 : wa0.heap.size ≠ w.heap.size + 2 := by omega
  have cr0 := (grown_cell hga hzr (by omega)).trans cr0
  have cr1 := (grown_cell hga hzr (by omega)).trans cr1
  have cr2 := (grown_cell hga hzr (by omega)).trans cr2
  have fr0 := (grown_frozen hga hzr (by omega)).trans fr0
  have fr1 := (grown_frozen hga hzr (by omega)).trans fr1
  have fr2 := (grown_frozen hga hzr (by omega)).trans fr2
  have hzr := Nat.lt_of_lt_of_le hzr hga.size
  have ct0 := (grown_cell hga hzt (by omega)).trans ct0
  have ct1 := (grown_cell hga hzt (by omega)).trans ct1
  have ct2 := (grown_cell hga hzt (by omega)).trans ct2
  have ft0 := (grown_frozen hga hzt (by omega)).trans ft0
  have ft1 := (grown_frozen hga hzt (by omega)).trans ft1
  have ft2 := (grown_frozen hga hzt (by omega)).trans ft2
  have hzt := Nat.lt_of_lt_of_le hzt hga.size
  have HB0 := Lib.hid (bl_alloc HA0.out (.cells #[.int .i64 x0, .int .i64 y0, .int .i64 z0] 25))
  have cp00 : (wa0.alloc (.cells #[.int .i64 x0, .int .i64 y0, .int .i64 z0] 25)).cell? ⟨wa0.heap.size, 0, none⟩ = some (.int .i64 x0) := by simp
  have cp01 : (wa0.alloc (.cells #[.int .i64 x0, .int .i64 y0, .int .i64 z0] 25)).cell? ⟨wa0.heap.size, 1, none⟩ = some (.int .i64 y0) := by simp
  have cp02 : (wa0.alloc (.cells #[.int .i64 x0, .int .i64 y0, .int .i64 z0] 25)).cell? ⟨wa0.heap.size, 2, none⟩ = some (.int .i64 z0) := by simp
  have fp00 : (wa0.alloc (.cells #[.int .i64 x0, .int .i64 y0, .int .i64 z0] 25)).frozen? ⟨wa0.heap.size, 0, none⟩ = false := by simp [go_sem]
  have fp01 : (wa0.alloc (.cells #[.int .i64 x0, .int .i64 y0, .int .i64 z0] 25)).frozen? ⟨wa0.heap.size, 1, none⟩ = false := by simp [go_sem]
  have fp02 : (wa0.alloc (.cells #[.int .i64 x0, .int .i64 y0, .int .i64 z0] 25)).frozen? ⟨wa0.heap.size, 2, none⟩ = false := by simp [go_sem]
  have hzp0 : wa0.heap.size < (wa0.alloc (.cells #[.int .i64 x0, .int .i64 y0, .int .i64 z0] 25)).heap.size := by first | (simp; done) | (simp; omega)
  have HC0 := Lib.hid hca
  have hcb := hca
  clear hc hg hca hga HA0
  go_wp2_with fail
  generalize (wa0.alloc (.cells #[.int .i64 x0, .int .i64 y0, .int .i64 z0] 25)) = wb0 at *
  clear hcb
  refine (walker_any _ 14 _ _ (by omega) HC0.out).mono ?_
  rintro e wa1 ⟨x1, y1, z1, rfl, hc, hg⟩
  have cr0 := (grown_cell hg hzr (by omega)).trans cr0
  have cr1 := (grown_cell hg hzr (by omega)).trans cr1
  have cr2 := (grown_cell hg hzr (by omega)).trans cr2
  have fr0 := (grown_frozen hg hzr (by omega)).trans fr0
  have fr1 := (grown_frozen hg hzr (by omega)).trans fr1
  have fr2 := (grown_frozen hg hzr (by omega)).trans fr2
  have hzr := Nat.lt_of_lt_of_le hzr hg.size
  have ct0 := (grown_cell hg hzt (by omega)).trans ct0
  have ct1 := (grown_cell hg hzt (by omega)).trans ct1
  have ct2 := (grown_cell hg hzt (by omega)).trans ct2
  have ft0 := (grown_frozen hg hzt (by omega)).trans ft0
  have ft1 := (grown_frozen hg hzt (by omega)).trans ft1
  have ft2 := (grown_frozen hg hzt (by omega)).trans ft2
  have hzt := Nat.lt_of_lt_of_le hzt hg.size
  have cp00 := (grown_cell hg hzp0 (by omega)).trans cp00
  have cp01 := (grown_cell hg hzp0 (by omega)).trans cp01
  have cp02 := (grown_cell hg hzp0 (by omega)).trans cp02
  have fp00 := (grown_frozen hg hzp0 (by omega)).trans fp00
  have fp01 := (grown_frozen hg hzp0 (by omega)).trans fp01
  have fp02 := (grown_frozen hg hzp0 (by omega)).trans fp02
  have hzp0 := Nat.lt_of_lt_of_le hzp0 hg.size
  have HA1 := Lib.hid (grown_below HB0.out (by omega) hg)
  obtain ⟨hca, hga⟩ := hc.alloc (.cells #[.int .i64 x1, .int .i64 y1, .int .i64 z1] 25)
  have hq1 := hc.1
  have hne1r : w.heap.size ≠ wa1.heap.size := by omega
  have hne1t : (w.heap.size + 1) ≠ wa1.heap.size := by omega
  have hne1p0 : wa0.heap.size ≠ wa1.heap.size := by omega
  have nb1 : wa1.heap.size ≠ w.heap.size + 2 := by omega
  have cr0 := (grown_cell hga hzr (by omega)).trans cr0
  have cr1 := (grown_cell hga hzr (by omega)).trans cr1
  have cr2 := (grown_cell hga hzr (by omega)).trans cr2
  have fr0 := (grown_frozen hga hzr (by omega)).trans fr0
  have fr1 := (grown_frozen hga hzr (by omega)).trans fr1
  have fr2 := (grown_frozen hga hzr (by omega)).trans fr2
  have hzr := Nat.lt_of_lt_of_le hzr hga.size
  have ct0 := (grown_cell hga hzt (by omega)).trans ct0
  have ct1 := (grown_cell hga hzt (by omega)).trans ct1
  have ct2 := (grown_cell hga hzt (by omega)).trans ct2
  have ft0 := (grown_frozen hga hzt (by omega)).trans ft0
  have ft1 := (grown_frozen hga hzt (by omega)).trans ft1
  have ft2 := (grown_frozen hga hzt (by omega)).trans ft2
  have hzt := Nat.lt_of_lt_of_le hzt hga.size
  have cp00 := (grown_cell hga hzp0 (by omega)).trans cp00
  have cp01 := (grown_cell hga hzp0 (by omega)).trans cp01
  have cp02 := (grown_cell hga hzp0 (by omega)).trans cp02
  have fp00 := (grown_frozen hga hzp0 (by omega)).trans fp00
  have fp01 := (grown_frozen hga hzp0 (by omega)).trans fp01
  have fp02 := (grown_frozen hga hzp0 (by omega)).trans fp02
  have hzp0 := Nat.lt_of_lt_of_le hzp0 hga.size
  have HB1 := Lib.hid (bl_alloc HA1.out (.cells #[.int .i64 x1, .int .i64 y1, .int .i64 z1] 25))
  have cp10 : (wa1.alloc (.cells #[.int .i64 x1, .int .i64 y1, .int .i64 z1] 25)).cell? ⟨wa1.heap.size, 0, none⟩ = some (.int .i64 x1) := by simp
  have cp11 : (wa1.alloc (.cells #[.int .i64 x1, .int .i64 y1, .int .i64 z1] 25)).cell? ⟨wa1.heap.size, 1, none⟩ = some (.int .i64 y1) := by simp
  have cp12 : (wa1.alloc (.cells #[.int .i64 x1, .int .i64 y1, .int .i64 z1] 25)).cell? ⟨wa1.heap.size, 2, none⟩ = some (.int .i64 z1) := by simp
  have fp10 : (wa1.alloc (.cells #[.int .i64 x1, .int .i64 y1, .int .i64 z1] 25)).frozen? ⟨wa1.heap.size, 0, none⟩ = false := by simp [go_sem]
  have fp11 : (wa1.alloc (.cells #[.int .i64 x1, .int .i64 y1, .int .i64 z1] 25)).frozen? ⟨wa1.heap.size, 1, none⟩ = false := by simp [go_sem]
  have fp12 : (wa1.alloc (.cells #[.int .i64 x1, .int .i64 y1, .int .i64 z1] 25)).frozen? ⟨wa1.heap.size, 2, none⟩ = false := by simp [go_sem]
  have hzp1 : wa1.heap.size < (wa1.alloc (.cells #[.int .i64 x1, .int .i64 y1, .int .i64 z1] 25)).heap.size := by first | (simp; done) | (simp; omega)
  have HC1 := Lib.hid hca
  have hcb := hca
  clear hc hg hca hga HA1
  go_wp2_with fail
  generalize (wa1.alloc (.cells #[.int .i64 x1, .int .i64 y1, .int .i64 z1] 25)) = wb1 at *
  have HN := Lib.hid (⟨hcb, bytes_grown hv (fun g o hg => (bcell HB1.out).1 g o hg)⟩ : CurN w.heap.size wb1 (w.heap.size + 2) (.slice a n c) 24)
  clear hcb hv HBl Hl HC0 HC1 HB0
  clear fp00 fp01 fp02
  clear fp10 fp11 fp12
  have hS0 : wb1.drew.cell? ⟨wa0.heap.size, 0, none⟩ = some (.int .i64 x0) ∧ wb1.drew.cell? ⟨wa0.heap.size, 1, none⟩ = some (.int .i64 y0) ∧ wb1.drew.cell? ⟨wa0.heap.size, 2, none⟩ = some (.int .i64 z0) ∧ wb1.drew.cell? ⟨wa1.heap.size, 0, none⟩ = some (.int .i64 x1) ∧ wb1.drew.cell? ⟨wa1.heap.size, 1, none⟩ = some (.int .i64 y1) ∧ wb1.drew.cell? ⟨wa1.heap.size, 2, none⟩ = some (.int .i64 z1) := ⟨cp00, cp01, cp02, cp10, cp11, cp12⟩
  go_region_held3 (fun w' => w'.cell? ⟨wa0.heap.size, 0, none⟩ = some (.int .i64 x0) ∧ w'.cell? ⟨wa0.heap.size, 1, none⟩ = some (.int .i64 y0) ∧ w'.cell? ⟨wa0.heap.size, 2, none⟩ = some (.int .i64 z0) ∧ w'.cell? ⟨wa1.heap.size, 0, none⟩ = some (.int .i64 x1) ∧ w'.cell? ⟨wa1.heap.size, 1, none⟩ = some (.int .i64 y1) ∧ w'.cell? ⟨wa1.heap.size, 2, none⟩ = some (.int .i64 z1)) ((first | with_reducible exact hS0 | ((with_reducible refine K2_set ?_ ?_ (K2_set ?_ ?_ (K2_set ?_ ?_ ?_))); all_goals first | omega | assumption) | ((with_reducible refine K2_grown hg9 ?_ ?_ ?_ ?_ ?_); all_goals first | omega | (simp; omega) | assumption) | fail)) ((go_at_call 36; refine (away_any _ 24 _ _ (by omega) (CurN.fst (N := w.heap.size) (by repeat (first | exact HN.out | refine CurN.set ?_ (by omega) (by omega) | refine CurN.drew ?_)))).mono ?_; rintro e w9 ⟨x9, rfl, hc9, hg9⟩; have xz := hg9.size; simp at xz; have xr0 := (grown_cell (g := w.heap.size) (o := 0) hg9 (by first | omega | (simp; omega)) (by omega)).trans (by first | exact cr0 | (simp [go_sem, *]; rfl)); have xr1 := (grown_cell (g := w.heap.size) (o := 1) hg9 (by first | omega | (simp; omega)) (by omega)).trans (by first | exact cr1 | (simp [go_sem, *]; rfl)); have xr2 := (grown_cell (g := w.heap.size) (o := 2) hg9 (by first | omega | (simp; omega)) (by omega)).trans (by first | exact cr2 | (simp [go_sem, *]; rfl)); have yr0 := (grown_frozen (g := w.heap.size) (o := 0) hg9 (by first | omega | (simp; omega)) (by omega)).trans (by first | exact fr0 | (simp [go_sem, *]; done)); have yr1 := (grown_frozen (g := w.heap.size) (o := 1) hg9 (by first | omega | (simp; omega)) (by omega)).trans (by first | exact fr1 | (simp [go_sem, *]; done)); have yr2 := (grown_frozen (g := w.heap.size) (o := 2) hg9 (by first | omega | (simp; omega)) (by omega)).trans (by first | exact fr2 | (simp [go_sem, *]; done)); have xt0 := (grown_cell (g := (w.heap.size + 1)) (o := 0) hg9 (by first | omega | (simp; omega)) (by omega)).trans (by first | exact ct0 | (simp [go_sem, *]; rfl)); have xt1 := (grown_cell (g := (w.heap.size + 1)) (o := 1) hg9 (by first | omega | (simp; omega)) (by omega)).trans (by first | exact ct1 | (simp [go_sem, *]; rfl)); have xt2 := (grown_cell (g := (w.heap.size + 1)) (o := 2) hg9 (by first | omega | (simp; omega)) (by omega)).trans (by first | exact ct2 | (simp [go_sem, *]; rfl)); have yt0 := (grown_frozen (g := (w.heap.size + 1)) (o := 0) hg9 (by first | omega | (simp; omega)) (by omega)).trans (by first | exact ft0 | (simp [go_sem, *]; done)); have yt1 := (grown_frozen (g := (w.heap.size + 1)) (o := 1) hg9 (by first | omega | (simp; omega)) (by omega)).trans (by first | exact ft1 | (simp [go_sem, *]; done)); have yt2 := (grown_frozen (g := (w.heap.size + 1)) (o := 2) hg9 (by first | omega | (simp; omega)) (by omega)).trans (by first | exact ft2 | (simp [go_sem, *]; done))))
  all_goals
    go_wp2
    refine bodyPost_ret (v := .tuple #[.int .i64 l, .agg #[.int .i64 x0, .int .i64 y0, .int .i64 z0], .agg #[.int .i64 x1, .int .i64 y1, .int .i64 z1], .int .i64 x9]) (by simp [results, Try.results13, go_sem, *]) rfl ⟨_, _, _, _, _, _, _, _, rfl, ?_⟩
    repeat (first | (with_reducible refine bl_set ?_ (by first | omega | (simp; done) | (simp; omega)) _) | (with_reducible refine grown_below ?_ ?_ hg9) | exact HB1.out | exact below_drewN HB1.out 1 | omega)
end Go.Proofs.Ytfnamahdofigaaa

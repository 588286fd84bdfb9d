/- Chapter 8: islands. -/
import Derived.Test.YtdlknbdgbmjkpaaHT2
import Derived.Deep.Cut
import Derived.Deep.CutRange
import Derived.Deep.DeepCutAuto
namespace Go.Proofs.Ytdlknbdgbmjkpaa
open Go.RowKit
set_option linter.unusedVariables false
set_option linter.unusedSimpArgs false
def okIs (s a f g : Int) : Bool := okSt s && (allS [a, f, g] && decide (f < g))
theorem okIs_true {s a f g : Int} (h : okIs s a f g = true) : (1 ≤ s ∧ s ≤ 100) ∧ (1 ≤ a ∧ a ≤ 2000) ∧ (1 ≤ f ∧ f ≤ 2000) ∧ (1 ≤ g ∧ g ≤ 2000) ∧ f < g := by
  simp only [okIs, Bool.and_eq_true, decide_eq_true_eq] at h
  obtain ⟨h1, h2, h3⟩ := h
  obtain ⟨p, q, r⟩ := allS3_true h2
  exact ⟨okSt_true h1, p, q, r, h3⟩
set_option maxHeartbeats 400000 in
theorem impl_IsIsland (s a f g : Int) (w : World) :
    Calls Try.prog 33 #[.agg #[.int .i64 s, .int .i64 a, .int .i64 f, .int .i64 g]] w fun e w' => e = .returned (.bool (okIs s a f g)) ∧ Below w.heap.size w w' := by
  cases h1 : okSt s
  case false =>
    go_enter Try.func33, Try.ntmps33
    go_wp2_with fail
    refine (isStaff_any _ _).mono ?_
    rintro e w' ⟨rfl, rfl⟩
    rw [h1]
    go_wp2
    go_ret
    exact ⟨by simp [okIs, h1], (by repeat (first | exact Below.refl _ _ | refine bl_alloc ?_ _ | refine bl_drewN ?_ _ | refine bl_trans (by assumption) ?_ | refine bl_set ?_ (by first | omega | (simp; done) | (simp; omega)) _))⟩
  cases h2 : allS [a, f, g]
  case false =>
    go_enter Try.func33, Try.ntmps33
    go_wp2_with fail
    refine (isStaff_any _ _).mono ?_
    rintro e w' ⟨rfl, rfl⟩
    rw [h1]
    go_wp2_with fail
    refine (areSteps3 _ _ _ _ _ _ (by first | rfl | simp)).mono ?_
    rintro e w' ⟨rfl, rfl⟩
    rw [h2]
    go_wp2
    go_ret
    exact ⟨by simp [okIs, h1, h2], (by repeat (first | exact Below.refl _ _ | refine bl_alloc ?_ _ | refine bl_drewN ?_ _ | refine bl_trans (by assumption) ?_ | refine bl_set ?_ (by first | omega | (simp; done) | (simp; omega)) _))⟩
  have HO := Lib.hid (show okIs s a f g = decide (f < g) by simp [okIs, h1, h2])
  go_enter Try.func33, Try.ntmps33
  go_wp2_with fail
  refine (isStaff_any _ _).mono ?_
  rintro e w' ⟨rfl, rfl⟩
  rw [h1]
  go_wp2_with fail
  refine (areSteps3 _ _ _ _ _ _ (by first | rfl | simp)).mono ?_
  rintro e w' ⟨rfl, rfl⟩
  rw [h2]
  go_wp2
  all_goals (go_ret; exact ⟨by rw [HO.out]; simp, (by repeat (first | exact Below.refl _ _ | refine bl_alloc ?_ _ | refine bl_drewN ?_ _ | refine bl_trans (by assumption) ?_ | refine bl_set ?_ (by first | omega | (simp; done) | (simp; omega)) _))⟩)
set_option maxHeartbeats 400000 in
theorem spec_htGood (s a f g : Int) (w : World) :
    Calls Try.prog 64 #[.agg #[.int .i64 s, .int .i64 a, .int .i64 f, .int .i64 g]] w fun e w' => e = .returned (.bool (okIs s a f g)) ∧ Below w.heap.size w w' := by
  cases h1 : okSt s
  case false =>
    go_enter Try.func64, Try.ntmps64
    go_wp2_with fail
    refine (htStaff_any _ _).mono ?_
    rintro e w' ⟨rfl, rfl⟩
    rw [h1]
    go_wp2
    go_ret
    exact ⟨by simp [okIs, h1], (by repeat (first | exact Below.refl _ _ | refine bl_alloc ?_ _ | refine bl_drewN ?_ _ | refine bl_trans (by assumption) ?_ | refine bl_set ?_ (by first | omega | (simp; done) | (simp; omega)) _))⟩
  cases h2 : allS [a, f, g]
  case false =>
    go_enter Try.func64, Try.ntmps64
    go_wp2_with fail
    refine (htStaff_any _ _).mono ?_
    rintro e w' ⟨rfl, rfl⟩
    rw [h1]
    go_wp2_with fail
    refine (htLong3 _ _ _ _ _ _ (by first | rfl | simp)).mono ?_
    rintro e w' ⟨rfl, rfl⟩
    rw [h2]
    go_wp2
    go_ret
    exact ⟨by simp [okIs, h1, h2], (by repeat (first | exact Below.refl _ _ | refine bl_alloc ?_ _ | refine bl_drewN ?_ _ | refine bl_trans (by assumption) ?_ | refine bl_set ?_ (by first | omega | (simp; done) | (simp; omega)) _))⟩
  have HO := Lib.hid (show okIs s a f g = decide (f < g) by simp [okIs, h1, h2])
  go_enter Try.func64, Try.ntmps64
  go_wp2_with fail
  refine (htStaff_any _ _).mono ?_
  rintro e w' ⟨rfl, rfl⟩
  rw [h1]
  go_wp2_with fail
  refine (htLong3 _ _ _ _ _ _ (by first | rfl | simp)).mono ?_
  rintro e w' ⟨rfl, rfl⟩
  rw [h2]
  go_wp2
  all_goals (go_ret; exact ⟨by rw [HO.out]; simp, (by repeat (first | exact Below.refl _ _ | refine bl_alloc ?_ _ | refine bl_drewN ?_ _ | refine bl_trans (by assumption) ?_ | refine bl_set ?_ (by first | omega | (simp; done) | (simp; omega)) _))⟩)
set_option maxHeartbeats 400000 in
theorem spec_IsIsland (s a f g : Int) (w : World) :
    Calls Try.prog 31 #[.agg #[.int .i64 s, .int .i64 a, .int .i64 f, .int .i64 g]] w fun e w' => e = .returned (.bool (okIs s a f g)) ∧ Below w.heap.size w w' := by
  go_enter Try.func31, Try.ntmps31
  go_wp2_with fail
  refine (spec_htGood _ _ _ _ _).mono ?_
  rintro e w1 ⟨rfl, hbw1⟩
  obtain ⟨hcw1, hfw1⟩ := bcell hbw1
  have hzw1 := bsize hbw1
  (try simp only [World.size_alloc, World.size_setCell] at hzw1)
  have kw1_0_0 : w1.cell? ⟨w.heap.size, 0, none⟩ = some (.int .i64 s) := by rw [hcw1 _ _ (by first | (simp; done) | omega | (simp; omega))]; first | assumption | (simp [go_sem]; done) | (simp [go_sem]; done) | (simp [go_sem, *]; done)
  have kw1_0_1 : w1.cell? ⟨w.heap.size, 1, none⟩ = some (.int .i64 a) := by rw [hcw1 _ _ (by first | (simp; done) | omega | (simp; omega))]; first | assumption | (simp [go_sem]; done) | (simp [go_sem]; done) | (simp [go_sem, *]; done)
  have kw1_0_2 : w1.cell? ⟨w.heap.size, 2, none⟩ = some (.int .i64 f) := by rw [hcw1 _ _ (by first | (simp; done) | omega | (simp; omega))]; first | assumption | (simp [go_sem]; done) | (simp [go_sem]; done) | (simp [go_sem, *]; done)
  have kw1_0_3 : w1.cell? ⟨w.heap.size, 3, none⟩ = some (.int .i64 g) := by rw [hcw1 _ _ (by first | (simp; done) | omega | (simp; omega))]; first | assumption | (simp [go_sem]; done) | (simp [go_sem]; done) | (simp [go_sem, *]; done)
  have sw1_0 : w.heap.size < w1.heap.size := by first | omega | (simp at *; omega)
  have hBw1 : Below w.heap.size w w1 := (by repeat (first | exact Below.refl _ _ | refine bl_alloc ?_ _ | refine bl_drewN ?_ _ | refine bl_trans (by assumption) ?_ | refine bl_set ?_ (by first | omega | (simp; done) | (simp; omega)) _))
  have HBw1 := Lib.hid hBw1
  clear hBw1 hcw1 hfw1 hbw1
  go_wp2
  go_ret
  exact ⟨rfl, (by repeat (first | exact HBw1.out | exact Below.refl _ _ | refine bl_alloc ?_ _ | refine bl_drewN ?_ _ | refine bl_trans (by assumption) ?_ | refine bl_set ?_ (by first | omega | (simp; done) | (simp; omega)) _))⟩
set_option maxHeartbeats 400000 in
theorem toIsland_any (s a f g : Int) (w : World) :
    Calls Try.prog 32 #[.agg #[.int .i64 s, .int .i64 a, .int .i64 f, .int .i64 g]] w fun e w' => e = .returned (.agg #[.int .i64 s, .int .i64 a, .int .i64 f, .int .i64 g]) ∧ Below w.heap.size w w' := by
  go_enter Try.func32, Try.ntmps32
  go_wp2
  exact bodyPost_ret (v := .agg #[.int .i64 s, .int .i64 a, .int .i64 f, .int .i64 g]) (by simp [results, Try.results32, go_sem]) rfl ⟨rfl, (by repeat (first | exact Below.refl _ _ | refine bl_alloc ?_ _ | refine bl_drewN ?_ _ | refine bl_trans (by assumption) ?_ | refine bl_set ?_ (by first | omega | (simp; done) | (simp; omega)) _))⟩
set_option maxHeartbeats 400000 in
theorem eqIsland_any (s a f g : Int) (w : World) :
    Calls Try.prog 55 #[.agg #[.int .i64 s, .int .i64 a, .int .i64 f, .int .i64 g], .agg #[.int .i64 s, .int .i64 a, .int .i64 f, .int .i64 g]] w fun e w' => e = .returned (.bool (true)) ∧ Below w.heap.size w w' := by
  go_enter Try.func55, Try.ntmps55
  go_wp2
  go_ret
  exact ⟨rfl, (by repeat (first | exact Below.refl _ _ | refine bl_alloc ?_ _ | refine bl_drewN ?_ _ | refine bl_trans (by assumption) ?_ | refine bl_set ?_ (by first | omega | (simp; done) | (simp; omega)) _))⟩
def tH (f : Int → Int → Int) (s a d : Int) : Int := f (s * a) d
theorem last4 {a b c D : Prop} (k : a ∧ b ∧ c ∧ D) : D := k.2.2.2
theorem last3' {a b D : Prop} (k : a ∧ b ∧ D) : D := k.2.2
set_option maxRecDepth 100000 in
set_option maxHeartbeats 4000000 in
theorem topOf_any (s a f g : Int) (s0 : 1 ≤ s) (s1 : s ≤ 100) (a0 : 1 ≤ a) (a1 : a ≤ 2000) (f0 : 1 ≤ f) (f1 : f ≤ 2000) (g1 : g ≤ 2000) (fg : f < g) (w : World) :
    Calls Try.prog 66 #[.agg #[.int .i64 s, .int .i64 a, .int .i64 f, .int .i64 g]] w fun e w' => e = .returned (.tuple #[.agg #[.int .i64 (ln (s * a) (g - f) + s * ld (s * a) (g - f)), .int .i64 (ld (s * a) (g - f))], .agg #[.int .i64 (ln (a * f) (g - f)), .int .i64 (ld (a * f) (g - f))]]) ∧ Below w.heap.size w w' := by
  obtain ⟨m0, m1⟩ := mul_bd2 (a := s) (b := a) (m := 100) (k := 2000) (by omega) (by omega) (by omega) (by omega)
  obtain ⟨m2, m3⟩ := mul_bd2 (a := a) (b := f) (m := 2000) (k := 2000) (by omega) (by omega) (by omega) (by omega)
  have HP := fun v p W hv hp => Lib.hid (parts2 v s a (g - f) p (by omega) (by omega) (by omega) (by omega) (by omega) (by omega) W hv hp)
  have HQ := fun v p W hv hp => Lib.hid (parts2 v a f (g - f) p (by omega) (by omega) (by omega) (by omega) (by omega) (by omega) W hv hp)
  obtain ⟨⟨r0, r1⟩, r2, r3⟩ := lnd_bd (x := s * a) (d := g - f) (by omega) (by omega)
  have HM := fun W => Lib.hid (longerBy_any (ln (s * a) (g - f)) (ld (s * a) (g - f)) s (by omega) (by omega) (by omega) (by omega) (by omega) (by omega) W)
  generalize ln (s * a) (g - f) + s * ld (s * a) (g - f) = XX at *
  generalize ln (s * a) (g - f) = X at *
  generalize ld (s * a) (g - f) = Y at *
  generalize ln (a * f) (g - f) = U at *
  generalize ld (a * f) (g - f) = V at *
  go_enter Try.func66, Try.ntmps66
  go_wp2_with fail
  refine (likeTriangles_any _ _).mono ?_
  rintro e w1 ⟨rfl, ⟨c1, z1⟩, hb1⟩
  obtain ⟨hc1, hf1⟩ := bcell hb1
  (try simp only [World.size_alloc] at c1 z1)
  have hz1 := bsize hb1
  (try simp only [World.size_alloc] at hz1)
  have k0 : w1.cell? ⟨w.heap.size, 0, none⟩ = some (.int .i64 s) := by rw [hc1 _ _ (by first | (simp; done) | omega | (simp; omega))]; simp [go_sem]
  have k1 : w1.cell? ⟨w.heap.size, 1, none⟩ = some (.int .i64 a) := by rw [hc1 _ _ (by first | (simp; done) | omega | (simp; omega))]; simp [go_sem]
  have k2 : w1.cell? ⟨w.heap.size, 2, none⟩ = some (.int .i64 f) := by rw [hc1 _ _ (by first | (simp; done) | omega | (simp; omega))]; simp [go_sem]
  have x0 : w1.cell? ⟨w.heap.size + 1, 0, none⟩ = some (.int .i64 0) := by rw [hc1 _ _ (by first | (simp; done) | omega | (simp; omega))]; simp [go_sem]
  have x1 : w1.cell? ⟨w.heap.size + 1, 1, none⟩ = some (.int .i64 0) := by rw [hc1 _ _ (by first | (simp; done) | omega | (simp; omega))]; simp [go_sem]
  have x2 : w1.cell? ⟨w.heap.size + 1 + 1, 0, none⟩ = some (.int .i64 0) := by rw [hc1 _ _ (by first | (simp; done) | omega | (simp; omega))]; simp [go_sem]
  have x3 : w1.cell? ⟨w.heap.size + 1 + 1, 1, none⟩ = some (.int .i64 0) := by rw [hc1 _ _ (by first | (simp; done) | omega | (simp; omega))]; simp [go_sem]
  have y0 : w1.frozen? ⟨w.heap.size + 1, 0, none⟩ = false := by rw [hf1 _ _ (by first | (simp; done) | omega | (simp; omega))]; simp [go_sem]
  have y1 : w1.frozen? ⟨w.heap.size + 1, 1, none⟩ = false := by rw [hf1 _ _ (by first | (simp; done) | omega | (simp; omega))]; simp [go_sem]
  have y2 : w1.frozen? ⟨w.heap.size + 1 + 1, 0, none⟩ = false := by rw [hf1 _ _ (by first | (simp; done) | omega | (simp; omega))]; simp [go_sem]
  have y3 : w1.frozen? ⟨w.heap.size + 1 + 1, 1, none⟩ = false := by rw [hf1 _ _ (by first | (simp; done) | omega | (simp; omega))]; simp [go_sem]
  have hB1 : Below w.heap.size w w1 := (by repeat (first | exact Below.refl _ _ | refine bl_alloc ?_ _ | refine bl_drewN ?_ _ | refine bl_trans (by assumption) ?_ | refine bl_set ?_ (by first | omega | (simp; done) | (simp; omega)) _))
  have HB1 := Lib.hid hB1
  clear hB1 hc1 hf1 hb1
  go_wp2_with fail
  have hbz := bl_alloc (Below.refl w1.heap.size w1) (.cells #[.int .i64 s, .int .i64 a, .int .i64 f] 3)
  have HB0 := Lib.hid (bl_alloc HB1.out (.cells #[.int .i64 s, .int .i64 a, .int .i64 f] 3))
  have q0 := cell_after hbz (by omega) k0
  have e0 := cell_after hbz (by omega) x0
  have e1 := cell_after hbz (by omega) x1
  have e2 := cell_after hbz (by omega) x2
  have e3 := cell_after hbz (by omega) x3
  have g0 := frozen_after hbz (by omega) y0
  have g1' := frozen_after hbz (by omega) y1
  have g2 := frozen_after hbz (by omega) y2
  have g3 := frozen_after hbz (by omega) y3
  have q6 : w.heap.size + 1 < (w1.alloc (.cells #[.int .i64 s, .int .i64 a, .int .i64 f] 3)).heap.size := by simp; omega
  have q7 : w.heap.size + 1 + 1 < (w1.alloc (.cells #[.int .i64 s, .int .i64 a, .int .i64 f] 3)).heap.size := by simp; omega
  have q1 := cell_after hbz z1 c1
  have q2 : w.heap.size < (w1.alloc (.cells #[.int .i64 s, .int .i64 a, .int .i64 f] 3)).heap.size := by simp; omega
  have q3 : w.heap.size + 1 + 1 + 1 < (w1.alloc (.cells #[.int .i64 s, .int .i64 a, .int .i64 f] 3)).heap.size := by simp; omega
  have q4 : w1.heap.size < (w1.alloc (.cells #[.int .i64 s, .int .i64 a, .int .i64 f] 3)).heap.size := by simp
  have d0 : (w1.alloc (.cells #[.int .i64 s, .int .i64 a, .int .i64 f] 3)).cell? ⟨w1.heap.size, 0, none⟩ = some (.int .i64 s) := by simp [go_sem]
  have d1 : (w1.alloc (.cells #[.int .i64 s, .int .i64 a, .int .i64 f] 3)).cell? ⟨w1.heap.size, 1, none⟩ = some (.int .i64 a) := by simp [go_sem]
  have d2 : (w1.alloc (.cells #[.int .i64 s, .int .i64 a, .int .i64 f] 3)).cell? ⟨w1.heap.size, 2, none⟩ = some (.int .i64 f) := by simp [go_sem]
  generalize (w1.alloc (.cells #[.int .i64 s, .int .i64 a, .int .i64 f] 3)) = wz at *
  have HS := Lib.hid (fun v (hb : Below wz.heap.size wz v) => (⟨cell_after hb q2 q0, size_after hb q2, hb⟩ : v.cell? ⟨w.heap.size, 0, none⟩ = some (.int .i64 s) ∧ w.heap.size < v.heap.size ∧ Below wz.heap.size wz v))
  have HC := Lib.hid (fun v (hb : Below wz.heap.size wz v) => cell_after hb q3 q1)
  have HSH := Lib.hid (fun v (hb : Below wz.heap.size wz v) => (⟨w1.heap.size, 0, 2, rfl, fun i hi => by
    match i, hi with
    | 0, _ => exact cell_after hb q4 d0
    | 1, _ => exact cell_after hb q4 d1
    | n + 2, hi => exact absurd hi (by simp)⟩ : Shows v (.slice (some ⟨w1.heap.size, 0, none⟩) 2 2) [s, a]))
  have HSG := Lib.hid (fun v (hb : Below wz.heap.size wz v) => (⟨w1.heap.size, 1, 2, rfl, fun i hi => by
    match i, hi with
    | 0, _ => exact cell_after hb q4 d1
    | 1, _ => exact cell_after hb q4 d2
    | n + 2, hi => exact absurd hi (by simp)⟩ : Shows v (.slice (some ⟨w1.heap.size, 1, none⟩) 2 2) [a, f]))
  clear hbz q0 q1 d0 d1 d2 k0 k1 k2 c1 x0 x1 x2 x3 y0 y1 y2 y3
  have hS := HS.out wz (Below.refl _ _)
  go_upto_region 3 with fail
  go_cut [6] (fun s6 wx => ∃ p, s6 = .pointer (some ⟨p, 0, none⟩) ∧ wx.cell? ⟨p, 0, none⟩ = some (.int .i64 XX) ∧ wx.cell? ⟨p, 1, none⟩ = some (.int .i64 Y) ∧ p < wx.heap.size ∧ Below wz.heap.size wz wx)
  case first =>
    go_region_held3 (fun w' => w'.cell? ⟨w.heap.size, 0, none⟩ = some (.int .i64 s) ∧ w.heap.size < w'.heap.size ∧ Below wz.heap.size wz w') (first | exact HS.out _ (bl_alloc hk9 _) | exact HS.out _ (bl_alloc hk8 _) | exact HS.out _ (bl_trans hb8 (last3' (by assumption))) | exact HS.out _ (bl_trans hb9 (last3' (by assumption))) | exact HS.out _ (bl_alloc (last3' (by assumption)) _) | exact HS.out _ (below_drewN (Below.refl _ _) _) | exact HS.out _ (Below.drew (Below.refl _ _)) | exact HS.out _ (bl_set (bl_set (last3' (by assumption)) (by first | omega | (simp; done) | (simp; omega)) _) (by first | omega | (simp; done) | (simp; omega)) _) | assumption) (first | (go_at_call 77; refine ((HP _ _ _ (HSH.out _ (last3' (by assumption))) (HC.out _ (last3' (by assumption)))).out).mono ?_; rintro e w8 ⟨rfl, hb8⟩; obtain ⟨hc8, hf8⟩ := bcell hb8; have hz8 := hb8.size; (try simp [Nat.succ_le_iff] at hz8); have hk8 : Below wz.heap.size wz w8 := bl_trans hb8 (last3' (by assumption))) | (go_at_call 63; refine ((HM _).out).mono ?_; rintro e w9 ⟨rfl, hb9⟩; obtain ⟨hc9, hf9⟩ := bcell hb9; have hz9 := hb9.size; (try simp [Nat.succ_le_iff] at hz9); have hk9 : Below wz.heap.size wz w9 := bl_trans hb9 (last3' (by assumption))))
    all_goals
      have hBB : Below wz.heap.size wz _ := last3' (by assumption)
      go_wp2_with fail
      go_meet
      refine ⟨_, rfl, ?_, ?_, ?_, hBB⟩
      all_goals first | omega | (simp [go_sem, *]; done) | (simp; omega) | (simp [go_sem, *]; omega)
  case rest =>
    obtain ⟨p, rfl, p0, p1, hp, hB⟩ := hcut
    rename World => wy
    go_wp2_with fail
    refine ((HQ _ _ _ (HSG.out _ hB) (HC.out _ hB)).out).mono ?_
    rintro e w8 ⟨rfl, hb8⟩
    have hB8 : Below wz.heap.size wz w8 := bl_trans hb8 hB
    have p2 := cell_after hb8 hp p0
    have p3 := cell_after hb8 hp p1
    have p4 := size_after hb8 hp
    have t0 := cell_after hB8 q6 e0
    have t1 := cell_after hB8 q6 e1
    have t2 := cell_after hB8 q7 e2
    have t3 := cell_after hB8 q7 e3
    have t4 := frozen_after hB8 q6 g0
    have t5 := frozen_after hB8 q6 g1'
    have t6 := frozen_after hB8 q7 g2
    have t7 := frozen_after hB8 q7 g3
    have t8 := size_after hB8 q6
    have t9 := size_after hB8 q7
    have HB8 := Lib.hid (bl_trans hB8 HB0.out)
    clear hB8 hb8 hB p0 p1 hp e0 e1 e2 e3 g0 g1' g2 g3 HS HC HSH HSG hS
    go_wp2_with fail
    go_region
    all_goals
      go_wp2
      refine bodyPost_ret (v := .tuple #[.agg #[.int .i64 XX, .int .i64 Y], .agg #[.int .i64 U, .int .i64 V]]) (by simp [results, Try.results66, go_sem, *]) rfl ⟨rfl, (by repeat (first | exact HB8.out | exact Below.refl _ _ | refine bl_alloc ?_ _ | refine bl_drewN ?_ _ | refine bl_set ?_ (by first | omega | (simp; done) | (simp; omega)) _ | refine Below.drew ?_))⟩
end Go.Proofs.Ytdlknbdgbmjkpaa

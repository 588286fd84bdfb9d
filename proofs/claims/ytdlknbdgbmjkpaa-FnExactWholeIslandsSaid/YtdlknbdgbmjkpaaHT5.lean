/- Chapter 8: sights, steps for islands, islands times as great. -/
import Derived.Test.YtdlknbdgbmjkpaaHT4
namespace Go.Proofs.Ytdlknbdgbmjkpaa
open Go.RowKit
set_option linter.unusedVariables false
set_option linter.unusedSimpArgs false
def okSg (n f k : Int) : Bool := allS [n, f, k] && decide (n < f)
theorem okSg_true {n f k : Int} (h : okSg n f k = true) : (1 ≤ n ∧ n ≤ 2000) ∧ (1 ≤ f ∧ f ≤ 2000) ∧ (1 ≤ k ∧ k ≤ 2000) ∧ n < f := by
  simp only [okSg, Bool.and_eq_true, decide_eq_true_eq] at h
  obtain ⟨p, q, r⟩ := allS3_true h.1
  exact ⟨p, q, r, h.2⟩
set_option maxHeartbeats 400000 in
theorem htSights_any (n f k : Int) (w : World) :
    Calls Try.prog 72 #[.int .i64 n, .int .i64 f, .int .i64 k] w fun e w' => e = .returned (.bool (okSg n f k)) ∧ Below w.heap.size w w' := by
  cases h1 : allS [n, f, k]
  case false =>
    go_enter Try.func72, Try.ntmps72
    go_wp2_with fail
    refine (htLong3 _ _ _ _ _ _ rfl).mono ?_
    rintro e w' ⟨rfl, rfl⟩
    rw [h1]
    go_wp2
    go_ret
    exact ⟨by simp [okSg, h1], (by repeat (first | exact Below.refl _ _ | refine bl_alloc ?_ _ | refine bl_drewN ?_ _ | refine bl_trans (by assumption) ?_ | refine bl_set ?_ (by first | omega | (simp; done) | (simp; omega)) _))⟩
  have HO := Lib.hid (show okSg n f k = decide (n < f) by simp [okSg, h1])
  go_enter Try.func72, Try.ntmps72
  go_wp2_with fail
  refine (htLong3 _ _ _ _ _ _ rfl).mono ?_
  rintro e w' ⟨rfl, rfl⟩
  rw [h1]
  go_wp2
  all_goals (go_ret; exact ⟨by rw [HO.out]; simp, (by repeat (first | exact Below.refl _ _ | refine bl_alloc ?_ _ | refine bl_drewN ?_ _ | refine bl_trans (by assumption) ?_ | refine bl_set ?_ (by first | omega | (simp; done) | (simp; omega)) _))⟩)
def okTowerByTwoSights (n f k : Int) : Bool := (allS [n, f, k]) && (decide (n < f))
set_option maxHeartbeats 1000000 in
theorem impl_TowerByTwoSights (n f k : Int) (w : World) :
    Calls Try.prog 50 #[.int .i64 n, .int .i64 f, .int .i64 k] w fun e w' => e = .returned (.tuple #[.int .i64 (Z (okTowerByTwoSights n f k) (ln (k) (f - n))), .int .i64 (Z (okTowerByTwoSights n f k) (ld (k) (f - n))), .bool (okTowerByTwoSights n f k)]) ∧ Below w.heap.size w w' := by
  cases h1 : allS [n, f, k]
  case false =>
    have HO := Lib.hid (show okTowerByTwoSights n f k = false by simp [okTowerByTwoSights, h1])
    go_enter Try.func50, Try.ntmps50
    go_wp2_with fail
    refine (areSteps3 _ _ _ _ _ _ rfl).mono ?_
    rintro e w' ⟨rfl, rfl⟩
    rw [h1]
    go_wp2
    go_ret3
    exact ⟨by simp [HO.out, Z], (by repeat (first | exact Below.refl _ _ | refine bl_alloc ?_ _ | refine bl_drewN ?_ _ | refine bl_trans (by assumption) ?_ | refine bl_set ?_ (by first | omega | (simp; done) | (simp; omega)) _))⟩
  by_cases h2 : n < f
  case neg =>
    have HO := Lib.hid (show okTowerByTwoSights n f k = false by simp [okTowerByTwoSights, h1, h2])
    go_enter Try.func50, Try.ntmps50
    go_wp2_with fail
    refine (areSteps3 _ _ _ _ _ _ rfl).mono ?_
    rintro e w' ⟨rfl, rfl⟩
    rw [h1]
    go_wp2
    go_ret3
    exact ⟨by simp [HO.out, Z], (by repeat (first | exact Below.refl _ _ | refine bl_alloc ?_ _ | refine bl_drewN ?_ _ | refine bl_trans (by assumption) ?_ | refine bl_set ?_ (by first | omega | (simp; done) | (simp; omega)) _))⟩
  have HO := Lib.hid (show okTowerByTwoSights n f k = true by simp [okTowerByTwoSights, h1, h2])
  obtain ⟨⟨un0, un1⟩, ⟨uf0, uf1⟩, uk0, uk1⟩ := allS3_true h1
  obtain ⟨m0, m1⟩ := mul_bd2 (a := n) (b := k) (m := 2000) (k := 2000) (by omega) (by omega) (by omega) (by omega)
  obtain ⟨m2, m3⟩ := mul_bd2 (a := k) (b := n) (m := 2000) (k := 2000) (by omega) (by omega) (by omega) (by omega)
  have HP := fun v p W hv hp => Lib.hid (parts1 v (k) (f - n) p (by omega) (by omega) (by omega) (by omega) W hv hp)
  have HS := Lib.hid ((⟨rfl, rfl⟩ : Z true (ln (k) (f - n)) = ln (k) (f - n) ∧ Z true (ld (k) (f - n)) = ld (k) (f - n)))
  obtain ⟨⟨r0, r1⟩, r2, r3⟩ := lnd_bd (x := k) (d := f - n) (by first | omega | exact Int.mul_nonneg (by omega) (by omega)) (by omega)
  rw [HO.out, HS.out.1, HS.out.2]
  clear HS
  generalize ln (k) (f - n) = X at *
  generalize ld (k) (f - n) = Y at *
  go_enter Try.func50, Try.ntmps50
  go_wp2_with fail
  refine (areSteps3 _ _ _ _ _ _ rfl).mono ?_
  rintro e w' ⟨rfl, rfl⟩
  rw [h1]
  go_wp2_with fail
  refine (likeTriangles_any _ _).mono ?_
  rintro e w1 ⟨rfl, ⟨c1, z1⟩, hb1⟩
  (try simp only [World.size_alloc] at c1 z1)
  go_wp2_with fail
  refine ((HP _ _ _ (shows1 _ _ _ _ rfl) (cell_after (bl_alloc (Below.refl _ _) _) z1 c1)).out).mono ?_
  rintro e w2 ⟨rfl, hb2⟩
  go_wp2_with fail
  refine (told_any _ _ _).mono ?_
  rintro e w4 ⟨rfl, hb4⟩
  go_wp2
  go_ret3
  exact ⟨rfl, (by repeat (first | exact Below.refl _ _ | refine bl_alloc ?_ _ | refine bl_drewN ?_ _ | refine bl_trans (by assumption) ?_ | refine bl_set ?_ (by first | omega | (simp; done) | (simp; omega)) _))⟩
theorem okTowerByTwoSights_is (n f k : Int) : okTowerByTwoSights n f k = okSg n f k := rfl
set_option maxHeartbeats 1000000 in
theorem spec_TowerByTwoSights (n f k : Int) (w : World) :
    Calls Try.prog 49 #[.int .i64 n, .int .i64 f, .int .i64 k] w fun e w' => e = .returned (.tuple #[.int .i64 (Z (okTowerByTwoSights n f k) (ln (k) (f - n))), .int .i64 (Z (okTowerByTwoSights n f k) (ld (k) (f - n))), .bool (okTowerByTwoSights n f k)]) ∧ Below w.heap.size w w' := by
  rw [okTowerByTwoSights_is]
  cases h : okSg n f k
  · go_enter Try.func49, Try.ntmps49
    go_wp2_with fail
    refine (htSights_any _ _ _ _).mono ?_
    rintro e w1 ⟨rfl, hb1⟩
    rw [h]
    go_wp2
    go_ret3
    exact ⟨by simp [Z], (by repeat (first | exact Below.refl _ _ | refine bl_alloc ?_ _ | refine bl_drewN ?_ _ | refine bl_trans (by assumption) ?_ | refine bl_set ?_ (by first | omega | (simp; done) | (simp; omega)) _))⟩
  obtain ⟨⟨n0, n1⟩, ⟨f0, f1⟩, ⟨k0, k1⟩, nf⟩ := okSg_true h
  obtain ⟨m0, m1⟩ := mul_bd2 (a := k) (b := n) (m := 2000) (k := 2000) (by omega) (by omega) (by omega) (by omega)
  have HL := fun W => Lib.hid (clLow_any (k) (f - n) (by omega) (by omega) (by omega) (by omega) W)
  rw [Z_true, Z_true]
  generalize ln (k) (f - n) = X at *
  generalize ld (k) (f - n) = Y at *
  go_enter Try.func49, Try.ntmps49
  go_wp2_with fail
  refine (htSights_any _ _ _ _).mono ?_
  rintro e w1 ⟨rfl, hb1⟩
  rw [h]
  go_wp2_with fail
  refine ((HL _).out).mono ?_
  rintro e w' ⟨rfl, m, rfl⟩
  go_wp2
  go_ret3
  exact ⟨rfl, (by repeat (first | exact Below.refl _ _ | refine bl_alloc ?_ _ | refine bl_drewN ?_ _ | refine bl_trans (by assumption) ?_ | refine bl_set ?_ (by first | omega | (simp; done) | (simp; omega)) _))⟩
def okDistanceByTwoSights (n f k : Int) : Bool := (allS [n, f, k]) && (decide (n < f))
set_option maxHeartbeats 1000000 in
theorem impl_DistanceByTwoSights (n f k : Int) (w : World) :
    Calls Try.prog 52 #[.int .i64 n, .int .i64 f, .int .i64 k] w fun e w' => e = .returned (.tuple #[.int .i64 (Z (okDistanceByTwoSights n f k) (ln (k * n) (f - n))), .int .i64 (Z (okDistanceByTwoSights n f k) (ld (k * n) (f - n))), .bool (okDistanceByTwoSights n f k)]) ∧ Below w.heap.size w w' := by
  cases h1 : allS [n, f, k]
  case false =>
    have HO := Lib.hid (show okDistanceByTwoSights n f k = false by simp [okDistanceByTwoSights, h1])
    go_enter Try.func52, Try.ntmps52
    go_wp2_with fail
    refine (areSteps3 _ _ _ _ _ _ rfl).mono ?_
    rintro e w' ⟨rfl, rfl⟩
    rw [h1]
    go_wp2
    go_ret3
    exact ⟨by simp [HO.out, Z], (by repeat (first | exact Below.refl _ _ | refine bl_alloc ?_ _ | refine bl_drewN ?_ _ | refine bl_trans (by assumption) ?_ | refine bl_set ?_ (by first | omega | (simp; done) | (simp; omega)) _))⟩
  by_cases h2 : n < f
  case neg =>
    have HO := Lib.hid (show okDistanceByTwoSights n f k = false by simp [okDistanceByTwoSights, h1, h2])
    go_enter Try.func52, Try.ntmps52
    go_wp2_with fail
    refine (areSteps3 _ _ _ _ _ _ rfl).mono ?_
    rintro e w' ⟨rfl, rfl⟩
    rw [h1]
    go_wp2
    go_ret3
    exact ⟨by simp [HO.out, Z], (by repeat (first | exact Below.refl _ _ | refine bl_alloc ?_ _ | refine bl_drewN ?_ _ | refine bl_trans (by assumption) ?_ | refine bl_set ?_ (by first | omega | (simp; done) | (simp; omega)) _))⟩
  have HO := Lib.hid (show okDistanceByTwoSights n f k = true by simp [okDistanceByTwoSights, h1, h2])
  obtain ⟨⟨un0, un1⟩, ⟨uf0, uf1⟩, uk0, uk1⟩ := allS3_true h1
  obtain ⟨m0, m1⟩ := mul_bd2 (a := n) (b := k) (m := 2000) (k := 2000) (by omega) (by omega) (by omega) (by omega)
  obtain ⟨m2, m3⟩ := mul_bd2 (a := k) (b := n) (m := 2000) (k := 2000) (by omega) (by omega) (by omega) (by omega)
  have HP := fun v p W hv hp => Lib.hid (parts2 v (n) (k) (f - n) p (by omega) (by omega) (by omega) (by omega) (by omega) (by omega) W hv hp)
  have HS := Lib.hid ((by rw [Int.mul_comm k n]; exact ⟨rfl, rfl⟩ : Z true (ln (k * n) (f - n)) = ln ((n) * (k)) (f - n) ∧ Z true (ld (k * n) (f - n)) = ld ((n) * (k)) (f - n)))
  obtain ⟨⟨r0, r1⟩, r2, r3⟩ := lnd_bd (x := (n) * (k)) (d := f - n) (by first | omega | exact Int.mul_nonneg (by omega) (by omega)) (by omega)
  rw [HO.out, HS.out.1, HS.out.2]
  clear HS
  generalize ln ((n) * (k)) (f - n) = X at *
  generalize ld ((n) * (k)) (f - n) = Y at *
  go_enter Try.func52, Try.ntmps52
  go_wp2_with fail
  refine (areSteps3 _ _ _ _ _ _ rfl).mono ?_
  rintro e w' ⟨rfl, rfl⟩
  rw [h1]
  go_wp2_with fail
  refine (likeTriangles_any _ _).mono ?_
  rintro e w1 ⟨rfl, ⟨c1, z1⟩, hb1⟩
  (try simp only [World.size_alloc] at c1 z1)
  go_wp2_with fail
  refine ((HP _ _ _ (shows2 _ _ _ _ _ rfl) (cell_after (bl_alloc (Below.refl _ _) _) z1 c1)).out).mono ?_
  rintro e w2 ⟨rfl, hb2⟩
  go_wp2_with fail
  refine (told_any _ _ _).mono ?_
  rintro e w4 ⟨rfl, hb4⟩
  go_wp2
  go_ret3
  exact ⟨rfl, (by repeat (first | exact Below.refl _ _ | refine bl_alloc ?_ _ | refine bl_drewN ?_ _ | refine bl_trans (by assumption) ?_ | refine bl_set ?_ (by first | omega | (simp; done) | (simp; omega)) _))⟩
theorem okDistanceByTwoSights_is (n f k : Int) : okDistanceByTwoSights n f k = okSg n f k := rfl
set_option maxHeartbeats 1000000 in
theorem spec_DistanceByTwoSights (n f k : Int) (w : World) :
    Calls Try.prog 51 #[.int .i64 n, .int .i64 f, .int .i64 k] w fun e w' => e = .returned (.tuple #[.int .i64 (Z (okDistanceByTwoSights n f k) (ln (k * n) (f - n))), .int .i64 (Z (okDistanceByTwoSights n f k) (ld (k * n) (f - n))), .bool (okDistanceByTwoSights n f k)]) ∧ Below w.heap.size w w' := by
  rw [okDistanceByTwoSights_is]
  cases h : okSg n f k
  · go_enter Try.func51, Try.ntmps51
    go_wp2_with fail
    refine (htSights_any _ _ _ _).mono ?_
    rintro e w1 ⟨rfl, hb1⟩
    rw [h]
    go_wp2
    go_ret3
    exact ⟨by simp [Z], (by repeat (first | exact Below.refl _ _ | refine bl_alloc ?_ _ | refine bl_drewN ?_ _ | refine bl_trans (by assumption) ?_ | refine bl_set ?_ (by first | omega | (simp; done) | (simp; omega)) _))⟩
  obtain ⟨⟨n0, n1⟩, ⟨f0, f1⟩, ⟨k0, k1⟩, nf⟩ := okSg_true h
  obtain ⟨m0, m1⟩ := mul_bd2 (a := k) (b := n) (m := 2000) (k := 2000) (by omega) (by omega) (by omega) (by omega)
  have HL := fun W => Lib.hid (clLow_any (k * n) (f - n) (by omega) (by omega) (by omega) (by omega) W)
  rw [Z_true, Z_true]
  generalize ln (k * n) (f - n) = X at *
  generalize ld (k * n) (f - n) = Y at *
  go_enter Try.func51, Try.ntmps51
  go_wp2_with fail
  refine (htSights_any _ _ _ _).mono ?_
  rintro e w1 ⟨rfl, hb1⟩
  rw [h]
  go_wp2_with fail
  refine ((HL _).out).mono ?_
  rintro e w' ⟨rfl, m, rfl⟩
  go_wp2
  go_ret3
  exact ⟨rfl, (by repeat (first | exact Below.refl _ _ | refine bl_alloc ?_ _ | refine bl_drewN ?_ _ | refine bl_trans (by assumption) ?_ | refine bl_set ?_ (by first | omega | (simp; done) | (simp; omega)) _))⟩
def okStp (s a h b : Int) : Bool := okSt s && (allS [a, h, b] && decide (s < h))
set_option maxHeartbeats 1000000 in
theorem impl_StepsForIsland (s a h b : Int) (w : World) :
    Calls Try.prog 41 #[.int .i64 s, .int .i64 a, .int .i64 h, .int .i64 b] w fun e w' => e = .returned (.tuple #[.int .i64 (Z (okStp s a h b) (ln (s * b) (h - s))), .int .i64 (Z (okStp s a h b) (ld (s * b) (h - s))), .int .i64 (Z (okStp s a h b) (ln (s * (b + a)) (h - s))), .int .i64 (Z (okStp s a h b) (ld (s * (b + a)) (h - s))), .bool (okStp s a h b)]) ∧ Below w.heap.size w w' := by
  cases h1 : okSt s
  case false =>
    have HO := Lib.hid (show okStp s a h b = false by simp [okStp, h1])
    rw [HO.out]
    go_enter Try.func41, Try.ntmps41
    go_wp2_with fail
    refine (isStaff_any _ _).mono ?_
    rintro e w' ⟨rfl, rfl⟩
    rw [h1]
    go_wp2
    refine bodyPost_ret (results_tmp5 Try.results41 _ _ _) rfl ⟨by first | rfl | (simp [Z]; done), (by repeat (first | exact Below.refl _ _ | refine bl_alloc ?_ _ | refine bl_drewN ?_ _ | refine bl_trans (by assumption) ?_ | refine bl_set ?_ (by first | omega | (simp; done) | (simp; omega)) _))⟩
  cases h2 : allS [a, h, b]
  case false =>
    have HO := Lib.hid (show okStp s a h b = false by simp [okStp, h1, h2])
    rw [HO.out]
    go_enter Try.func41, Try.ntmps41
    go_wp2_with fail
    refine (isStaff_any _ _).mono ?_
    rintro e w' ⟨rfl, rfl⟩
    rw [h1]
    go_wp2_with fail
    refine (areSteps3 _ _ _ _ _ _ rfl).mono ?_
    rintro e w' ⟨rfl, rfl⟩
    rw [h2]
    go_wp2
    refine bodyPost_ret (results_tmp5 Try.results41 _ _ _) rfl ⟨by first | rfl | (simp [Z]; done), (by repeat (first | exact Below.refl _ _ | refine bl_alloc ?_ _ | refine bl_drewN ?_ _ | refine bl_trans (by assumption) ?_ | refine bl_set ?_ (by first | omega | (simp; done) | (simp; omega)) _))⟩
  by_cases h3 : s < h
  case neg =>
    have HO := Lib.hid (show okStp s a h b = false by simp [okStp, h1, h2, h3])
    rw [HO.out]
    go_enter Try.func41, Try.ntmps41
    go_wp2_with fail
    refine (isStaff_any _ _).mono ?_
    rintro e w' ⟨rfl, rfl⟩
    rw [h1]
    go_wp2_with fail
    refine (areSteps3 _ _ _ _ _ _ rfl).mono ?_
    rintro e w' ⟨rfl, rfl⟩
    rw [h2]
    go_wp2
    refine bodyPost_ret (results_tmp5 Try.results41 _ _ _) rfl ⟨by first | rfl | (simp [Z]; done), (by repeat (first | exact Below.refl _ _ | refine bl_alloc ?_ _ | refine bl_drewN ?_ _ | refine bl_trans (by assumption) ?_ | refine bl_set ?_ (by first | omega | (simp; done) | (simp; omega)) _))⟩
  have HO := Lib.hid (show okStp s a h b = true by simp [okStp, h1, h2, h3])
  obtain ⟨us0, us1⟩ := okSt_true h1
  obtain ⟨⟨ua0, ua1⟩, ⟨uh0, uh1⟩, ub0, ub1⟩ := allS3_true h2
  obtain ⟨m0, m1⟩ := mul_bd2 (a := s) (b := b) (m := 100) (k := 2000) (by omega) (by omega) (by omega) (by omega)
  obtain ⟨m2, m3⟩ := mul_bd2 (a := s) (b := b + a) (m := 100) (k := 4000) (by omega) (by omega) (by omega) (by omega)
  rw [HO.out, Z_true, Z_true, Z_true, Z_true]
  have HP := fun v p W hv hp => Lib.hid (parts2 v s b (h - s) p (by omega) (by omega) (by omega) (by omega) (by omega) (by omega) W hv hp)
  have HQ := fun v p W hv hp => Lib.hid (parts2 v s (b + a) (h - s) p (by omega) (by omega) (by omega) (by omega) (by omega) (by omega) W hv hp)
  generalize ln (s * b) (h - s) = X at *
  generalize ld (s * b) (h - s) = Y at *
  generalize ln (s * (b + a)) (h - s) = U at *
  generalize ld (s * (b + a)) (h - s) = V at *
  go_enter Try.func41, Try.ntmps41
  go_wp2_with fail
  refine (isStaff_any _ _).mono ?_
  rintro e w' ⟨rfl, rfl⟩
  rw [h1]
  go_wp2_with fail
  refine (areSteps3 _ _ _ _ _ _ rfl).mono ?_
  rintro e w' ⟨rfl, rfl⟩
  rw [h2]
  go_wp2_with fail
  refine (likeTriangles_any _ _).mono ?_
  rintro e w1 ⟨rfl, ⟨c1, z1⟩, hb1⟩
  (try simp only [World.size_alloc] at c1 z1)
  go_wp2_with fail
  refine ((HP _ _ _ (shows2 _ _ _ _ _ rfl) (cell_after (bl_alloc (Below.refl _ _) _) z1 c1)).out).mono ?_
  rintro e w2 ⟨rfl, hb2⟩
  have c2 := cell_after hb2 (size_after (bl_alloc (Below.refl _ _) _) z1) (cell_after (bl_alloc (Below.refl _ _) _) z1 c1)
  have z2 := size_after hb2 (size_after (bl_alloc (Below.refl _ _) _) z1)
  go_wp2_with fail
  refine ((HQ _ _ _ (shows2 _ _ _ _ _ rfl) (cell_after (bl_alloc (Below.refl _ _) _) z2 c2)).out).mono ?_
  rintro e w3 ⟨rfl, hb3⟩
  go_wp2_with fail
  go_quiet (fail)
  go_wp2
  refine bodyPost_ret (results_tmp5 Try.results41 _ _ _) rfl ⟨rfl, (by repeat (first | exact Below.refl _ _ | refine bl_alloc ?_ _ | refine bl_drewN ?_ _ | refine bl_trans (by assumption) ?_ | refine bl_set ?_ (by first | omega | (simp; done) | (simp; omega)) _))⟩
set_option maxHeartbeats 1000000 in
theorem spec_StepsForIsland (s a h b : Int) (w : World) :
    Calls Try.prog 40 #[.int .i64 s, .int .i64 a, .int .i64 h, .int .i64 b] w fun e w' => e = .returned (.tuple #[.int .i64 (Z (okStp s a h b) (ln (s * b) (h - s))), .int .i64 (Z (okStp s a h b) (ld (s * b) (h - s))), .int .i64 (Z (okStp s a h b) (ln (s * (b + a)) (h - s))), .int .i64 (Z (okStp s a h b) (ld (s * (b + a)) (h - s))), .bool (okStp s a h b)]) ∧ Below w.heap.size w w' := by
  cases h1 : okSt s
  case false =>
    have HO := Lib.hid (show okStp s a h b = false by simp [okStp, h1])
    rw [HO.out]
    go_enter Try.func40, Try.ntmps40
    go_wp2_with fail
    refine (htStaff_any _ _).mono ?_
    rintro e w' ⟨rfl, rfl⟩
    rw [h1]
    go_wp2
    refine bodyPost_ret (results_tmp5 Try.results40 _ _ _) rfl ⟨by first | rfl | (simp [Z]; done), (by repeat (first | exact Below.refl _ _ | refine bl_alloc ?_ _ | refine bl_drewN ?_ _ | refine bl_trans (by assumption) ?_ | refine bl_set ?_ (by first | omega | (simp; done) | (simp; omega)) _))⟩
  cases h2 : allS [a, h, b]
  case false =>
    have HO := Lib.hid (show okStp s a h b = false by simp [okStp, h1, h2])
    rw [HO.out]
    go_enter Try.func40, Try.ntmps40
    go_wp2_with fail
    refine (htStaff_any _ _).mono ?_
    rintro e w' ⟨rfl, rfl⟩
    rw [h1]
    go_wp2_with fail
    refine (htLong3 _ _ _ _ _ _ rfl).mono ?_
    rintro e w' ⟨rfl, rfl⟩
    rw [h2]
    go_wp2
    refine bodyPost_ret (results_tmp5 Try.results40 _ _ _) rfl ⟨by first | rfl | (simp [Z]; done), (by repeat (first | exact Below.refl _ _ | refine bl_alloc ?_ _ | refine bl_drewN ?_ _ | refine bl_trans (by assumption) ?_ | refine bl_set ?_ (by first | omega | (simp; done) | (simp; omega)) _))⟩
  by_cases h3 : s < h
  case neg =>
    have HO := Lib.hid (show okStp s a h b = false by simp [okStp, h1, h2, h3])
    rw [HO.out]
    go_enter Try.func40, Try.ntmps40
    go_wp2_with fail
    refine (htStaff_any _ _).mono ?_
    rintro e w' ⟨rfl, rfl⟩
    rw [h1]
    go_wp2_with fail
    refine (htLong3 _ _ _ _ _ _ rfl).mono ?_
    rintro e w' ⟨rfl, rfl⟩
    rw [h2]
    go_wp2
    refine bodyPost_ret (results_tmp5 Try.results40 _ _ _) rfl ⟨by first | rfl | (simp [Z]; done), (by repeat (first | exact Below.refl _ _ | refine bl_alloc ?_ _ | refine bl_drewN ?_ _ | refine bl_trans (by assumption) ?_ | refine bl_set ?_ (by first | omega | (simp; done) | (simp; omega)) _))⟩
  have HO := Lib.hid (show okStp s a h b = true by simp [okStp, h1, h2, h3])
  obtain ⟨us0, us1⟩ := okSt_true h1
  obtain ⟨⟨ua0, ua1⟩, ⟨uh0, uh1⟩, ub0, ub1⟩ := allS3_true h2
  obtain ⟨m0, m1⟩ := mul_bd2 (a := s) (b := b) (m := 100) (k := 2000) (by omega) (by omega) (by omega) (by omega)
  obtain ⟨m2, m3⟩ := mul_bd2 (a := s) (b := b + a) (m := 100) (k := 4000) (by omega) (by omega) (by omega) (by omega)
  rw [HO.out, Z_true, Z_true, Z_true, Z_true]
  have HP := fun W => Lib.hid (clLow_any (s * b) (h - s) (by omega) (by omega) (by omega) (by omega) W)
  have HQ := fun W => Lib.hid (clLow_any (s * (b + a)) (h - s) (by omega) (by omega) (by omega) (by omega) W)
  generalize ln (s * b) (h - s) = X at *
  generalize ld (s * b) (h - s) = Y at *
  generalize ln (s * (b + a)) (h - s) = U at *
  generalize ld (s * (b + a)) (h - s) = V at *
  go_enter Try.func40, Try.ntmps40
  go_wp2_with fail
  refine (htStaff_any _ _).mono ?_
  rintro e w' ⟨rfl, rfl⟩
  rw [h1]
  go_wp2_with fail
  refine (htLong3 _ _ _ _ _ _ rfl).mono ?_
  rintro e w' ⟨rfl, rfl⟩
  rw [h2]
  go_wp2_with fail
  refine ((HP _).out).mono ?_
  rintro e w' ⟨rfl, m, rfl⟩
  go_wp2_with fail
  refine ((HQ _).out).mono ?_
  rintro e w' ⟨rfl, m2, rfl⟩
  go_wp2
  refine bodyPost_ret (results_tmp5 Try.results40 _ _ _) rfl ⟨rfl, (by repeat (first | exact Below.refl _ _ | refine bl_alloc ?_ _ | refine bl_drewN ?_ _ | refine bl_trans (by assumption) ?_ | refine bl_set ?_ (by first | omega | (simp; done) | (simp; omega)) _))⟩
set_option maxHeartbeats 2000000 in
theorem onlyIsland_any (s a f g : Int) (w : World) :
    Calls Try.prog 73 #[.agg #[.int .i64 s, .int .i64 a, .int .i64 f, .int .i64 g]] w fun e w' => e = .returned (.tuple #[.agg #[.int .i64 (Z (okIs s a f g) (s)), .int .i64 (Z (okIs s a f g) (a)), .int .i64 (Z (okIs s a f g) (f)), .int .i64 (Z (okIs s a f g) (g))], .bool (okIs s a f g)]) ∧ Below w.heap.size w w' := by
  cases h1 : okIs s a f g
  · go_enter Try.func73, Try.ntmps73
    go_wp2_with fail
    refine (impl_IsIsland _ _ _ _ _).mono ?_
    rintro e w1 ⟨rfl, hbw1⟩
    obtain ⟨hcw1, hfw1⟩ := bcell hbw1
    have hzw1 := bsize hbw1
    (try simp only [World.size_alloc, World.size_setCell] at hzw1)
    have kw1_0_0 : w1.cell? ⟨w.heap.size, 0, none⟩ = some (.int .i64 s) := by rw [hcw1 _ _ (by first | (simp; done) | omega | (simp; omega))]; first | assumption | (simp [go_sem]; done) | (simp [go_sem]; done) | (simp [go_sem, *]; done)
    have kw1_0_1 : w1.cell? ⟨w.heap.size, 1, none⟩ = some (.int .i64 a) := by rw [hcw1 _ _ (by first | (simp; done) | omega | (simp; omega))]; first | assumption | (simp [go_sem]; done) | (simp [go_sem]; done) | (simp [go_sem, *]; done)
    have kw1_0_2 : w1.cell? ⟨w.heap.size, 2, none⟩ = some (.int .i64 f) := by rw [hcw1 _ _ (by first | (simp; done) | omega | (simp; omega))]; first | assumption | (simp [go_sem]; done) | (simp [go_sem]; done) | (simp [go_sem, *]; done)
    have kw1_0_3 : w1.cell? ⟨w.heap.size, 3, none⟩ = some (.int .i64 g) := by rw [hcw1 _ _ (by first | (simp; done) | omega | (simp; omega))]; first | assumption | (simp [go_sem]; done) | (simp [go_sem]; done) | (simp [go_sem, *]; done)
    have sw1_0 : w.heap.size < w1.heap.size := by first | omega | (simp at *; omega)
    have kw1_1_0 : w1.cell? ⟨w.heap.size + 1, 0, none⟩ = some (.int .i64 0) := by rw [hcw1 _ _ (by first | (simp; done) | omega | (simp; omega))]; first | assumption | (simp [go_sem]; done) | (simp [go_sem]; done) | (simp [go_sem, *]; done)
    have fw1_1_0 : w1.frozen? ⟨w.heap.size + 1, 0, none⟩ = false := by rw [hfw1 _ _ (by first | (simp; done) | omega | (simp; omega))]; first | assumption | (simp [go_sem]; done) | (simp [go_sem]; done) | (simp [go_sem, *]; done)
    have kw1_1_1 : w1.cell? ⟨w.heap.size + 1, 1, none⟩ = some (.int .i64 0) := by rw [hcw1 _ _ (by first | (simp; done) | omega | (simp; omega))]; first | assumption | (simp [go_sem]; done) | (simp [go_sem]; done) | (simp [go_sem, *]; done)
    have fw1_1_1 : w1.frozen? ⟨w.heap.size + 1, 1, none⟩ = false := by rw [hfw1 _ _ (by first | (simp; done) | omega | (simp; omega))]; first | assumption | (simp [go_sem]; done) | (simp [go_sem]; done) | (simp [go_sem, *]; done)
    have kw1_1_2 : w1.cell? ⟨w.heap.size + 1, 2, none⟩ = some (.int .i64 0) := by rw [hcw1 _ _ (by first | (simp; done) | omega | (simp; omega))]; first | assumption | (simp [go_sem]; done) | (simp [go_sem]; done) | (simp [go_sem, *]; done)
    have fw1_1_2 : w1.frozen? ⟨w.heap.size + 1, 2, none⟩ = false := by rw [hfw1 _ _ (by first | (simp; done) | omega | (simp; omega))]; first | assumption | (simp [go_sem]; done) | (simp [go_sem]; done) | (simp [go_sem, *]; done)
    have kw1_1_3 : w1.cell? ⟨w.heap.size + 1, 3, none⟩ = some (.int .i64 0) := by rw [hcw1 _ _ (by first | (simp; done) | omega | (simp; omega))]; first | assumption | (simp [go_sem]; done) | (simp [go_sem]; done) | (simp [go_sem, *]; done)
    have fw1_1_3 : w1.frozen? ⟨w.heap.size + 1, 3, none⟩ = false := by rw [hfw1 _ _ (by first | (simp; done) | omega | (simp; omega))]; first | assumption | (simp [go_sem]; done) | (simp [go_sem]; done) | (simp [go_sem, *]; done)
    have sw1_1 : w.heap.size + 1 < w1.heap.size := by first | omega | (simp at *; omega)
    have hBw1 : Below w.heap.size w w1 := (by repeat (first | exact Below.refl _ _ | refine bl_alloc ?_ _ | refine bl_drewN ?_ _ | refine bl_trans (by assumption) ?_ | refine bl_set ?_ (by first | omega | (simp; done) | (simp; omega)) _))
    have HBw1 := Lib.hid hBw1
    clear hBw1 hcw1 hfw1 hbw1
    rw [h1]
    go_wp2
    refine bodyPost_ret (v := .tuple #[.agg #[.int .i64 (Z (okIs s a f g) (s)), .int .i64 (Z (okIs s a f g) (a)), .int .i64 (Z (okIs s a f g) (f)), .int .i64 (Z (okIs s a f g) (g))], .bool (okIs s a f g)]) (by simp [results, Try.results73, go_sem, Z, *]) rfl ⟨by rw [h1], (by repeat (first | exact HBw1.out | exact Below.refl _ _ | refine bl_alloc ?_ _ | refine bl_drewN ?_ _ | refine bl_trans (by assumption) ?_ | refine bl_set ?_ (by first | omega | (simp; done) | (simp; omega)) _))⟩
  · go_enter Try.func73, Try.ntmps73
    go_wp2_with fail
    refine (impl_IsIsland _ _ _ _ _).mono ?_
    rintro e w1 ⟨rfl, hbw1⟩
    obtain ⟨hcw1, hfw1⟩ := bcell hbw1
    have hzw1 := bsize hbw1
    (try simp only [World.size_alloc, World.size_setCell] at hzw1)
    have kw1_0_0 : w1.cell? ⟨w.heap.size, 0, none⟩ = some (.int .i64 s) := by rw [hcw1 _ _ (by first | (simp; done) | omega | (simp; omega))]; first | assumption | (simp [go_sem]; done) | (simp [go_sem]; done) | (simp [go_sem, *]; done)
    have kw1_0_1 : w1.cell? ⟨w.heap.size, 1, none⟩ = some (.int .i64 a) := by rw [hcw1 _ _ (by first | (simp; done) | omega | (simp; omega))]; first | assumption | (simp [go_sem]; done) | (simp [go_sem]; done) | (simp [go_sem, *]; done)
    have kw1_0_2 : w1.cell? ⟨w.heap.size, 2, none⟩ = some (.int .i64 f) := by rw [hcw1 _ _ (by first | (simp; done) | omega | (simp; omega))]; first | assumption | (simp [go_sem]; done) | (simp [go_sem]; done) | (simp [go_sem, *]; done)
    have kw1_0_3 : w1.cell? ⟨w.heap.size, 3, none⟩ = some (.int .i64 g) := by rw [hcw1 _ _ (by first | (simp; done) | omega | (simp; omega))]; first | assumption | (simp [go_sem]; done) | (simp [go_sem]; done) | (simp [go_sem, *]; done)
    have sw1_0 : w.heap.size < w1.heap.size := by first | omega | (simp at *; omega)
    have kw1_1_0 : w1.cell? ⟨w.heap.size + 1, 0, none⟩ = some (.int .i64 0) := by rw [hcw1 _ _ (by first | (simp; done) | omega | (simp; omega))]; first | assumption | (simp [go_sem]; done) | (simp [go_sem]; done) | (simp [go_sem, *]; done)
    have fw1_1_0 : w1.frozen? ⟨w.heap.size + 1, 0, none⟩ = false := by rw [hfw1 _ _ (by first | (simp; done) | omega | (simp; omega))]; first | assumption | (simp [go_sem]; done) | (simp [go_sem]; done) | (simp [go_sem, *]; done)
    have kw1_1_1 : w1.cell? ⟨w.heap.size + 1, 1, none⟩ = some (.int .i64 0) := by rw [hcw1 _ _ (by first | (simp; done) | omega | (simp; omega))]; first | assumption | (simp [go_sem]; done) | (simp [go_sem]; done) | (simp [go_sem, *]; done)
    have fw1_1_1 : w1.frozen? ⟨w.heap.size + 1, 1, none⟩ = false := by rw [hfw1 _ _ (by first | (simp; done) | omega | (simp; omega))]; first | assumption | (simp [go_sem]; done) | (simp [go_sem]; done) | (simp [go_sem, *]; done)
    have kw1_1_2 : w1.cell? ⟨w.heap.size + 1, 2, none⟩ = some (.int .i64 0) := by rw [hcw1 _ _ (by first | (simp; done) | omega | (simp; omega))]; first | assumption | (simp [go_sem]; done) | (simp [go_sem]; done) | (simp [go_sem, *]; done)
    have fw1_1_2 : w1.frozen? ⟨w.heap.size + 1, 2, none⟩ = false := by rw [hfw1 _ _ (by first | (simp; done) | omega | (simp; omega))]; first | assumption | (simp [go_sem]; done) | (simp [go_sem]; done) | (simp [go_sem, *]; done)
    have kw1_1_3 : w1.cell? ⟨w.heap.size + 1, 3, none⟩ = some (.int .i64 0) := by rw [hcw1 _ _ (by first | (simp; done) | omega | (simp; omega))]; first | assumption | (simp [go_sem]; done) | (simp [go_sem]; done) | (simp [go_sem, *]; done)
    have fw1_1_3 : w1.frozen? ⟨w.heap.size + 1, 3, none⟩ = false := by rw [hfw1 _ _ (by first | (simp; done) | omega | (simp; omega))]; first | assumption | (simp [go_sem]; done) | (simp [go_sem]; done) | (simp [go_sem, *]; done)
    have sw1_1 : w.heap.size + 1 < w1.heap.size := by first | omega | (simp at *; omega)
    have hBw1 : Below w.heap.size w w1 := (by repeat (first | exact Below.refl _ _ | refine bl_alloc ?_ _ | refine bl_drewN ?_ _ | refine bl_trans (by assumption) ?_ | refine bl_set ?_ (by first | omega | (simp; done) | (simp; omega)) _))
    have HBw1 := Lib.hid hBw1
    clear hBw1 hcw1 hfw1 hbw1
    rw [h1]
    go_wp2
    refine bodyPost_ret (v := .tuple #[.agg #[.int .i64 (Z (okIs s a f g) (s)), .int .i64 (Z (okIs s a f g) (a)), .int .i64 (Z (okIs s a f g) (f)), .int .i64 (Z (okIs s a f g) (g))], .bool (okIs s a f g)]) (by simp [results, Try.results73, go_sem, Z, *]) rfl ⟨by rw [h1], (by repeat (first | exact HBw1.out | exact Below.refl _ _ | refine bl_alloc ?_ _ | refine bl_drewN ?_ _ | refine bl_trans (by assumption) ?_ | refine bl_set ?_ (by first | omega | (simp; done) | (simp; omega)) _))⟩
def okTm (s a f g b : Int) : Bool := okIs s a f g && (okS b && okIs (s * b) (a * b) (f * b) (g * b))
set_option maxHeartbeats 2000000 in
theorem impl_TimesIsland (s a f g b : Int) (w : World) :
    Calls Try.prog 54 #[.agg #[.int .i64 s, .int .i64 a, .int .i64 f, .int .i64 g], .int .i64 b] w fun e w' => e = .returned (.tuple #[.agg #[.int .i64 (Z (okTm s a f g b) (s * b)), .int .i64 (Z (okTm s a f g b) (a * b)), .int .i64 (Z (okTm s a f g b) (f * b)), .int .i64 (Z (okTm s a f g b) (g * b))], .bool (okTm s a f g b)]) ∧ Below w.heap.size w w' := by
  cases h1 : okIs s a f g
  · have HO := Lib.hid (show okTm s a f g b = false by simp [okTm, h1])
    rw [HO.out]
    go_enter Try.func54, Try.ntmps54
    go_wp2_with fail
    refine (impl_IsIsland _ _ _ _ _).mono ?_
    rintro e w1 ⟨rfl, hbw1⟩
    obtain ⟨hcw1, hfw1⟩ := bcell hbw1
    have hzw1 := bsize hbw1
    (try simp only [World.size_alloc, World.size_setCell] at hzw1)
    have kw1_0_0 : w1.cell? ⟨w.heap.size, 0, none⟩ = some (.int .i64 s) := by rw [hcw1 _ _ (by first | (simp; done) | omega | (simp; omega))]; first | assumption | (simp [go_sem]; done) | (simp [go_sem]; done) | (simp [go_sem, *]; done)
    have kw1_0_1 : w1.cell? ⟨w.heap.size, 1, none⟩ = some (.int .i64 a) := by rw [hcw1 _ _ (by first | (simp; done) | omega | (simp; omega))]; first | assumption | (simp [go_sem]; done) | (simp [go_sem]; done) | (simp [go_sem, *]; done)
    have kw1_0_2 : w1.cell? ⟨w.heap.size, 2, none⟩ = some (.int .i64 f) := by rw [hcw1 _ _ (by first | (simp; done) | omega | (simp; omega))]; first | assumption | (simp [go_sem]; done) | (simp [go_sem]; done) | (simp [go_sem, *]; done)
    have kw1_0_3 : w1.cell? ⟨w.heap.size, 3, none⟩ = some (.int .i64 g) := by rw [hcw1 _ _ (by first | (simp; done) | omega | (simp; omega))]; first | assumption | (simp [go_sem]; done) | (simp [go_sem]; done) | (simp [go_sem, *]; done)
    have sw1_0 : w.heap.size < w1.heap.size := by first | omega | (simp at *; omega)
    have kw1_1_0 : w1.cell? ⟨w.heap.size + 1, 0, none⟩ = some (.int .i64 0) := by rw [hcw1 _ _ (by first | (simp; done) | omega | (simp; omega))]; first | assumption | (simp [go_sem]; done) | (simp [go_sem]; done) | (simp [go_sem, *]; done)
    have fw1_1_0 : w1.frozen? ⟨w.heap.size + 1, 0, none⟩ = false := by rw [hfw1 _ _ (by first | (simp; done) | omega | (simp; omega))]; first | assumption | (simp [go_sem]; done) | (simp [go_sem]; done) | (simp [go_sem, *]; done)
    have kw1_1_1 : w1.cell? ⟨w.heap.size + 1, 1, none⟩ = some (.int .i64 0) := by rw [hcw1 _ _ (by first | (simp; done) | omega | (simp; omega))]; first | assumption | (simp [go_sem]; done) | (simp [go_sem]; done) | (simp [go_sem, *]; done)
    have fw1_1_1 : w1.frozen? ⟨w.heap.size + 1, 1, none⟩ = false := by rw [hfw1 _ _ (by first | (simp; done) | omega | (simp; omega))]; first | assumption | (simp [go_sem]; done) | (simp [go_sem]; done) | (simp [go_sem, *]; done)
    have kw1_1_2 : w1.cell? ⟨w.heap.size + 1, 2, none⟩ = some (.int .i64 0) := by rw [hcw1 _ _ (by first | (simp; done) | omega | (simp; omega))]; first | assumption | (simp [go_sem]; done) | (simp [go_sem]; done) | (simp [go_sem, *]; done)
    have fw1_1_2 : w1.frozen? ⟨w.heap.size + 1, 2, none⟩ = false := by rw [hfw1 _ _ (by first | (simp; done) | omega | (simp; omega))]; first | assumption | (simp [go_sem]; done) | (simp [go_sem]; done) | (simp [go_sem, *]; done)
    have kw1_1_3 : w1.cell? ⟨w.heap.size + 1, 3, none⟩ = some (.int .i64 0) := by rw [hcw1 _ _ (by first | (simp; done) | omega | (simp; omega))]; first | assumption | (simp [go_sem]; done) | (simp [go_sem]; done) | (simp [go_sem, *]; done)
    have fw1_1_3 : w1.frozen? ⟨w.heap.size + 1, 3, none⟩ = false := by rw [hfw1 _ _ (by first | (simp; done) | omega | (simp; omega))]; first | assumption | (simp [go_sem]; done) | (simp [go_sem]; done) | (simp [go_sem, *]; done)
    have sw1_1 : w.heap.size + 1 < w1.heap.size := by first | omega | (simp at *; omega)
    have hBw1 : Below w.heap.size w w1 := (by repeat (first | exact Below.refl _ _ | refine bl_alloc ?_ _ | refine bl_drewN ?_ _ | refine bl_trans (by assumption) ?_ | refine bl_set ?_ (by first | omega | (simp; done) | (simp; omega)) _))
    have HBw1 := Lib.hid hBw1
    clear hBw1 hcw1 hfw1 hbw1
    rw [h1]
    go_wp2
    refine bodyPost_ret (v := .tuple #[.agg #[.int .i64 (0), .int .i64 (0), .int .i64 (0), .int .i64 (0)], .bool (false)]) (by simp [results, Try.results54, go_sem, Z, *]) rfl ⟨by simp [Z], (by repeat (first | exact HBw1.out | exact Below.refl _ _ | refine bl_alloc ?_ _ | refine bl_drewN ?_ _ | refine bl_trans (by assumption) ?_ | refine bl_set ?_ (by first | omega | (simp; done) | (simp; omega)) _))⟩
  cases h2 : okS b
  · have HO := Lib.hid (show okTm s a f g b = false by simp [okTm, h1, h2])
    rw [HO.out]
    go_enter Try.func54, Try.ntmps54
    go_wp2_with fail
    refine (impl_IsIsland _ _ _ _ _).mono ?_
    rintro e w1 ⟨rfl, hbw1⟩
    obtain ⟨hcw1, hfw1⟩ := bcell hbw1
    have hzw1 := bsize hbw1
    (try simp only [World.size_alloc, World.size_setCell] at hzw1)
    have kw1_0_0 : w1.cell? ⟨w.heap.size, 0, none⟩ = some (.int .i64 s) := by rw [hcw1 _ _ (by first | (simp; done) | omega | (simp; omega))]; first | assumption | (simp [go_sem]; done) | (simp [go_sem]; done) | (simp [go_sem, *]; done)
    have kw1_0_1 : w1.cell? ⟨w.heap.size, 1, none⟩ = some (.int .i64 a) := by rw [hcw1 _ _ (by first | (simp; done) | omega | (simp; omega))]; first | assumption | (simp [go_sem]; done) | (simp [go_sem]; done) | (simp [go_sem, *]; done)
    have kw1_0_2 : w1.cell? ⟨w.heap.size, 2, none⟩ = some (.int .i64 f) := by rw [hcw1 _ _ (by first | (simp; done) | omega | (simp; omega))]; first | assumption | (simp [go_sem]; done) | (simp [go_sem]; done) | (simp [go_sem, *]; done)
    have kw1_0_3 : w1.cell? ⟨w.heap.size, 3, none⟩ = some (.int .i64 g) := by rw [hcw1 _ _ (by first | (simp; done) | omega | (simp; omega))]; first | assumption | (simp [go_sem]; done) | (simp [go_sem]; done) | (simp [go_sem, *]; done)
    have sw1_0 : w.heap.size < w1.heap.size := by first | omega | (simp at *; omega)
    have kw1_1_0 : w1.cell? ⟨w.heap.size + 1, 0, none⟩ = some (.int .i64 0) := by rw [hcw1 _ _ (by first | (simp; done) | omega | (simp; omega))]; first | assumption | (simp [go_sem]; done) | (simp [go_sem]; done) | (simp [go_sem, *]; done)
    have fw1_1_0 : w1.frozen? ⟨w.heap.size + 1, 0, none⟩ = false := by rw [hfw1 _ _ (by first | (simp; done) | omega | (simp; omega))]; first | assumption | (simp [go_sem]; done) | (simp [go_sem]; done) | (simp [go_sem, *]; done)
    have kw1_1_1 : w1.cell? ⟨w.heap.size + 1, 1, none⟩ = some (.int .i64 0) := by rw [hcw1 _ _ (by first | (simp; done) | omega | (simp; omega))]; first | assumption | (simp [go_sem]; done) | (simp [go_sem]; done) | (simp [go_sem, *]; done)
    have fw1_1_1 : w1.frozen? ⟨w.heap.size + 1, 1, none⟩ = false := by rw [hfw1 _ _ (by first | (simp; done) | omega | (simp; omega))]; first | assumption | (simp [go_sem]; done) | (simp [go_sem]; done) | (simp [go_sem, *]; done)
    have kw1_1_2 : w1.cell? ⟨w.heap.size + 1, 2, none⟩ = some (.int .i64 0) := by rw [hcw1 _ _ (by first | (simp; done) | omega | (simp; omega))]; first | assumption | (simp [go_sem]; done) | (simp [go_sem]; done) | (simp [go_sem, *]; done)
    have fw1_1_2 : w1.frozen? ⟨w.heap.size + 1, 2, none⟩ = false := by rw [hfw1 _ _ (by first | (simp; done) | omega | (simp; omega))]; first | assumption | (simp [go_sem]; done) | (simp [go_sem]; done) | (simp [go_sem, *]; done)
    have kw1_1_3 : w1.cell? ⟨w.heap.size + 1, 3, none⟩ = some (.int .i64 0) := by rw [hcw1 _ _ (by first | (simp; done) | omega | (simp; omega))]; first | assumption | (simp [go_sem]; done) | (simp [go_sem]; done) | (simp [go_sem, *]; done)
    have fw1_1_3 : w1.frozen? ⟨w.heap.size + 1, 3, none⟩ = false := by rw [hfw1 _ _ (by first | (simp; done) | omega | (simp; omega))]; first | assumption | (simp [go_sem]; done) | (simp [go_sem]; done) | (simp [go_sem, *]; done)
    have sw1_1 : w.heap.size + 1 < w1.heap.size := by first | omega | (simp at *; omega)
    have hBw1 : Below w.heap.size w w1 := (by repeat (first | exact Below.refl _ _ | refine bl_alloc ?_ _ | refine bl_drewN ?_ _ | refine bl_trans (by assumption) ?_ | refine bl_set ?_ (by first | omega | (simp; done) | (simp; omega)) _))
    have HBw1 := Lib.hid hBw1
    clear hBw1 hcw1 hfw1 hbw1
    rw [h1]
    go_wp2_with fail
    refine (areSteps1 _ _ _ _ rfl).mono ?_
    rintro e w' ⟨rfl, rfl⟩
    rw [allS1, h2]
    go_wp2
    refine bodyPost_ret (v := .tuple #[.agg #[.int .i64 (0), .int .i64 (0), .int .i64 (0), .int .i64 (0)], .bool (false)]) (by simp [results, Try.results54, go_sem, Z, *]) rfl ⟨by simp [Z], (by repeat (first | exact HBw1.out | exact Below.refl _ _ | refine bl_alloc ?_ _ | refine bl_drewN ?_ _ | refine bl_trans (by assumption) ?_ | refine bl_set ?_ (by first | omega | (simp; done) | (simp; omega)) _))⟩
  have HO := Lib.hid (show okTm s a f g b = okIs (s * b) (a * b) (f * b) (g * b) by simp [okTm, h1, h2])
  rw [HO.out]
  clear HO
  obtain ⟨⟨s0, s1⟩, ⟨a0, a1⟩, ⟨f0, f1⟩, ⟨g0, g1⟩, fg⟩ := okIs_true h1
  obtain ⟨b0, b1⟩ := okS_true h2
  obtain ⟨m0, m1⟩ := mul_bd2 (a := s) (b := b) (m := 100) (k := 2000) (by omega) (by omega) (by omega) (by omega)
  obtain ⟨m2, m3⟩ := mul_bd2 (a := a) (b := b) (m := 2000) (k := 2000) (by omega) (by omega) (by omega) (by omega)
  obtain ⟨m4, m5⟩ := mul_bd2 (a := f) (b := b) (m := 2000) (k := 2000) (by omega) (by omega) (by omega) (by omega)
  obtain ⟨m6, m7⟩ := mul_bd2 (a := g) (b := b) (m := 2000) (k := 2000) (by omega) (by omega) (by omega) (by omega)
  have HI := fun W => Lib.hid (onlyIsland_any (s * b) (a * b) (f * b) (g * b) W)
  generalize Z (okIs (s * b) (a * b) (f * b) (g * b)) (s * b) = z0 at *
  generalize Z (okIs (s * b) (a * b) (f * b) (g * b)) (a * b) = z1 at *
  generalize Z (okIs (s * b) (a * b) (f * b) (g * b)) (f * b) = z2 at *
  generalize Z (okIs (s * b) (a * b) (f * b) (g * b)) (g * b) = z3 at *
  generalize okIs (s * b) (a * b) (f * b) (g * b) = zk at *
  go_enter Try.func54, Try.ntmps54
  go_wp2_with fail
  refine (impl_IsIsland _ _ _ _ _).mono ?_
  rintro e w1 ⟨rfl, hbw1⟩
  obtain ⟨hcw1, hfw1⟩ := bcell hbw1
  have hzw1 := bsize hbw1
  (try simp only [World.size_alloc, World.size_setCell] at hzw1)
  have kw1_0_0 : w1.cell? ⟨w.heap.size, 0, none⟩ = some (.int .i64 s) := by rw [hcw1 _ _ (by first | (simp; done) | omega | (simp; omega))]; first | assumption | (simp [go_sem]; done) | (simp [go_sem]; done) | (simp [go_sem, *]; done)
  have kw1_0_1 : w1.cell? ⟨w.heap.size, 1, none⟩ = some (.int .i64 a) := by rw [hcw1 _ _ (by first | (simp; done) | omega | (simp; omega))]; first | assumption | (simp [go_sem]; done) | (simp [go_sem]; done) | (simp [go_sem, *]; done)
  have kw1_0_2 : w1.cell? ⟨w.heap.size, 2, none⟩ = some (.int .i64 f) := by rw [hcw1 _ _ (by first | (simp; done) | omega | (simp; omega))]; first | assumption | (simp [go_sem]; done) | (simp [go_sem]; done) | (simp [go_sem, *]; done)
  have kw1_0_3 : w1.cell? ⟨w.heap.size, 3, none⟩ = some (.int .i64 g) := by rw [hcw1 _ _ (by first | (simp; done) | omega | (simp; omega))]; first | assumption | (simp [go_sem]; done) | (simp [go_sem]; done) | (simp [go_sem, *]; done)
  have sw1_0 : w.heap.size < w1.heap.size := by first | omega | (simp at *; omega)
  have kw1_1_0 : w1.cell? ⟨w.heap.size + 1, 0, none⟩ = some (.int .i64 0) := by rw [hcw1 _ _ (by first | (simp; done) | omega | (simp; omega))]; first | assumption | (simp [go_sem]; done) | (simp [go_sem]; done) | (simp [go_sem, *]; done)
  have fw1_1_0 : w1.frozen? ⟨w.heap.size + 1, 0, none⟩ = false := by rw [hfw1 _ _ (by first | (simp; done) | omega | (simp; omega))]; first | assumption | (simp [go_sem]; done) | (simp [go_sem]; done) | (simp [go_sem, *]; done)
  have kw1_1_1 : w1.cell? ⟨w.heap.size + 1, 1, none⟩ = some (.int .i64 0) := by rw [hcw1 _ _ (by first | (simp; done) | omega | (simp; omega))]; first | assumption | (simp [go_sem]; done) | (simp [go_sem]; done) | (simp [go_sem, *]; done)
  have fw1_1_1 : w1.frozen? ⟨w.heap.size + 1, 1, none⟩ = false := by rw [hfw1 _ _ (by first | (simp; done) | omega | (simp; omega))]; first | assumption | (simp [go_sem]; done) | (simp [go_sem]; done) | (simp [go_sem, *]; done)
  have kw1_1_2 : w1.cell? ⟨w.heap.size + 1, 2, none⟩ = some (.int .i64 0) := by rw [hcw1 _ _ (by first | (simp; done) | omega | (simp; omega))]; first | assumption | (simp [go_sem]; done) | (simp [go_sem]; done) | (simp [go_sem, *]; done)
  have fw1_1_2 : w1.frozen? ⟨w.heap.size + 1, 2, none⟩ = false := by rw [hfw1 _ _ (by first | (simp; done) | omega | (simp; omega))]; first | assumption | (simp [go_sem]; done) | (simp [go_sem]; done) | (simp [go_sem, *]; done)
  have kw1_1_3 : w1.cell? ⟨w.heap.size + 1, 3, none⟩ = some (.int .i64 0) := by rw [hcw1 _ _ (by first | (simp; done) | omega | (simp; omega))]; first | assumption | (simp [go_sem]; done) | (simp [go_sem]; done) | (simp [go_sem, *]; done)
  have fw1_1_3 : w1.frozen? ⟨w.heap.size + 1, 3, none⟩ = false := by rw [hfw1 _ _ (by first | (simp; done) | omega | (simp; omega))]; first | assumption | (simp [go_sem]; done) | (simp [go_sem]; done) | (simp [go_sem, *]; done)
  have sw1_1 : w.heap.size + 1 < w1.heap.size := by first | omega | (simp at *; omega)
  have hBw1 : Below w.heap.size w w1 := (by repeat (first | exact Below.refl _ _ | refine bl_alloc ?_ _ | refine bl_drewN ?_ _ | refine bl_trans (by assumption) ?_ | refine bl_set ?_ (by first | omega | (simp; done) | (simp; omega)) _))
  have HBw1 := Lib.hid hBw1
  clear hBw1 hcw1 hfw1 hbw1
  rw [h1]
  go_wp2_with fail
  refine (areSteps1 _ _ _ _ rfl).mono ?_
  rintro e w' ⟨rfl, rfl⟩
  rw [allS1, h2]
  go_wp2_with fail
  refine ((HI _).out).mono ?_
  rintro e w2 ⟨rfl, hbw2⟩
  obtain ⟨hcw2, hfw2⟩ := bcell hbw2
  have hzw2 := bsize hbw2
  (try simp only [World.size_alloc, World.size_setCell] at hzw2)
  have hkw2 : Below w1.heap.size w1 w2 := (by repeat (first | exact Below.refl _ _ | refine bl_alloc ?_ _ | refine bl_drewN ?_ _ | refine bl_trans (by assumption) ?_ | refine bl_set ?_ (by first | omega | (simp; done) | (simp; omega)) _))
  have kw2_0_0 : w2.cell? ⟨w.heap.size, 0, none⟩ = some (.int .i64 s) := cell_after hkw2 sw1_0 kw1_0_0
  have kw2_0_1 : w2.cell? ⟨w.heap.size, 1, none⟩ = some (.int .i64 a) := cell_after hkw2 sw1_0 kw1_0_1
  have kw2_0_2 : w2.cell? ⟨w.heap.size, 2, none⟩ = some (.int .i64 f) := cell_after hkw2 sw1_0 kw1_0_2
  have kw2_0_3 : w2.cell? ⟨w.heap.size, 3, none⟩ = some (.int .i64 g) := cell_after hkw2 sw1_0 kw1_0_3
  have sw2_0 : w.heap.size < w2.heap.size := size_after hkw2 sw1_0
  have kw2_1_0 : w2.cell? ⟨w.heap.size + 1, 0, none⟩ = some (.int .i64 0) := cell_after hkw2 sw1_1 kw1_1_0
  have fw2_1_0 : w2.frozen? ⟨w.heap.size + 1, 0, none⟩ = false := frozen_after hkw2 sw1_1 fw1_1_0
  have kw2_1_1 : w2.cell? ⟨w.heap.size + 1, 1, none⟩ = some (.int .i64 0) := cell_after hkw2 sw1_1 kw1_1_1
  have fw2_1_1 : w2.frozen? ⟨w.heap.size + 1, 1, none⟩ = false := frozen_after hkw2 sw1_1 fw1_1_1
  have kw2_1_2 : w2.cell? ⟨w.heap.size + 1, 2, none⟩ = some (.int .i64 0) := cell_after hkw2 sw1_1 kw1_1_2
  have fw2_1_2 : w2.frozen? ⟨w.heap.size + 1, 2, none⟩ = false := frozen_after hkw2 sw1_1 fw1_1_2
  have kw2_1_3 : w2.cell? ⟨w.heap.size + 1, 3, none⟩ = some (.int .i64 0) := cell_after hkw2 sw1_1 kw1_1_3
  have fw2_1_3 : w2.frozen? ⟨w.heap.size + 1, 3, none⟩ = false := frozen_after hkw2 sw1_1 fw1_1_3
  have sw2_1 : w.heap.size + 1 < w2.heap.size := size_after hkw2 sw1_1
  have hBw2 : Below w.heap.size w w2 := (by repeat (first | exact HBw1.out | exact Below.refl _ _ | refine bl_alloc ?_ _ | refine bl_drewN ?_ _ | refine bl_trans (by assumption) ?_ | refine bl_set ?_ (by first | omega | (simp; done) | (simp; omega)) _))
  have HBw2 := Lib.hid hBw2
  clear hBw2 hcw2 hfw2 hbw2 hkw2 kw1_0_0 kw1_0_1 kw1_0_2 kw1_0_3 sw1_0 kw1_1_0 kw1_1_1 kw1_1_2 kw1_1_3 fw1_1_0 fw1_1_1 fw1_1_2 fw1_1_3 sw1_1
  go_wp2
  refine bodyPost_ret (v := .tuple #[.agg #[.int .i64 z0, .int .i64 z1, .int .i64 z2, .int .i64 z3], .bool zk]) (by simp [results, Try.results54, go_sem, Z, *]) rfl ⟨rfl, (by repeat (first | exact HBw2.out | exact Below.refl _ _ | refine bl_alloc ?_ _ | refine bl_drewN ?_ _ | refine bl_trans (by assumption) ?_ | refine bl_set ?_ (by first | omega | (simp; done) | (simp; omega)) _))⟩
set_option maxHeartbeats 2000000 in
theorem spec_TimesIsland (s a f g b : Int) (w : World) :
    Calls Try.prog 53 #[.agg #[.int .i64 s, .int .i64 a, .int .i64 f, .int .i64 g], .int .i64 b] w fun e w' => e = .returned (.tuple #[.agg #[.int .i64 (Z (okTm s a f g b) (s * b)), .int .i64 (Z (okTm s a f g b) (a * b)), .int .i64 (Z (okTm s a f g b) (f * b)), .int .i64 (Z (okTm s a f g b) (g * b))], .bool (okTm s a f g b)]) ∧ Below w.heap.size w w' := by
  cases h1 : okIs s a f g
  · have HO := Lib.hid (show okTm s a f g b = false by simp [okTm, h1])
    rw [HO.out]
    go_enter Try.func53, Try.ntmps53
    go_wp2_with fail
    refine (spec_htGood _ _ _ _ _).mono ?_
    rintro e w1 ⟨rfl, hbw1⟩
    obtain ⟨hcw1, hfw1⟩ := bcell hbw1
    have hzw1 := bsize hbw1
    (try simp only [World.size_alloc, World.size_setCell] at hzw1)
    have kw1_0_0 : w1.cell? ⟨w.heap.size, 0, none⟩ = some (.int .i64 s) := by rw [hcw1 _ _ (by first | (simp; done) | omega | (simp; omega))]; first | assumption | (simp [go_sem]; done) | (simp [go_sem]; done) | (simp [go_sem, *]; done)
    have kw1_0_1 : w1.cell? ⟨w.heap.size, 1, none⟩ = some (.int .i64 a) := by rw [hcw1 _ _ (by first | (simp; done) | omega | (simp; omega))]; first | assumption | (simp [go_sem]; done) | (simp [go_sem]; done) | (simp [go_sem, *]; done)
    have kw1_0_2 : w1.cell? ⟨w.heap.size, 2, none⟩ = some (.int .i64 f) := by rw [hcw1 _ _ (by first | (simp; done) | omega | (simp; omega))]; first | assumption | (simp [go_sem]; done) | (simp [go_sem]; done) | (simp [go_sem, *]; done)
    have kw1_0_3 : w1.cell? ⟨w.heap.size, 3, none⟩ = some (.int .i64 g) := by rw [hcw1 _ _ (by first | (simp; done) | omega | (simp; omega))]; first | assumption | (simp [go_sem]; done) | (simp [go_sem]; done) | (simp [go_sem, *]; done)
    have sw1_0 : w.heap.size < w1.heap.size := by first | omega | (simp at *; omega)
    have kw1_1_0 : w1.cell? ⟨w.heap.size + 1, 0, none⟩ = some (.int .i64 0) := by rw [hcw1 _ _ (by first | (simp; done) | omega | (simp; omega))]; first | assumption | (simp [go_sem]; done) | (simp [go_sem]; done) | (simp [go_sem, *]; done)
    have fw1_1_0 : w1.frozen? ⟨w.heap.size + 1, 0, none⟩ = false := by rw [hfw1 _ _ (by first | (simp; done) | omega | (simp; omega))]; first | assumption | (simp [go_sem]; done) | (simp [go_sem]; done) | (simp [go_sem, *]; done)
    have kw1_1_1 : w1.cell? ⟨w.heap.size + 1, 1, none⟩ = some (.int .i64 0) := by rw [hcw1 _ _ (by first | (simp; done) | omega | (simp; omega))]; first | assumption | (simp [go_sem]; done) | (simp [go_sem]; done) | (simp [go_sem, *]; done)
    have fw1_1_1 : w1.frozen? ⟨w.heap.size + 1, 1, none⟩ = false := by rw [hfw1 _ _ (by first | (simp; done) | omega | (simp; omega))]; first | assumption | (simp [go_sem]; done) | (simp [go_sem]; done) | (simp [go_sem, *]; done)
    have kw1_1_2 : w1.cell? ⟨w.heap.size + 1, 2, none⟩ = some (.int .i64 0) := by rw [hcw1 _ _ (by first | (simp; done) | omega | (simp; omega))]; first | assumption | (simp [go_sem]; done) | (simp [go_sem]; done) | (simp [go_sem, *]; done)
    have fw1_1_2 : w1.frozen? ⟨w.heap.size + 1, 2, none⟩ = false := by rw [hfw1 _ _ (by first | (simp; done) | omega | (simp; omega))]; first | assumption | (simp [go_sem]; done) | (simp [go_sem]; done) | (simp [go_sem, *]; done)
    have kw1_1_3 : w1.cell? ⟨w.heap.size + 1, 3, none⟩ = some (.int .i64 0) := by rw [hcw1 _ _ (by first | (simp; done) | omega | (simp; omega))]; first | assumption | (simp [go_sem]; done) | (simp [go_sem]; done) | (simp [go_sem, *]; done)
    have fw1_1_3 : w1.frozen? ⟨w.heap.size + 1, 3, none⟩ = false := by rw [hfw1 _ _ (by first | (simp; done) | omega | (simp; omega))]; first | assumption | (simp [go_sem]; done) | (simp [go_sem]; done) | (simp [go_sem, *]; done)
    have sw1_1 : w.heap.size + 1 < w1.heap.size := by first | omega | (simp at *; omega)
    have hBw1 : Below w.heap.size w w1 := (by repeat (first | exact Below.refl _ _ | refine bl_alloc ?_ _ | refine bl_drewN ?_ _ | refine bl_trans (by assumption) ?_ | refine bl_set ?_ (by first | omega | (simp; done) | (simp; omega)) _))
    have HBw1 := Lib.hid hBw1
    clear hBw1 hcw1 hfw1 hbw1
    rw [h1]
    go_wp2
    refine bodyPost_ret (v := .tuple #[.agg #[.int .i64 (0), .int .i64 (0), .int .i64 (0), .int .i64 (0)], .bool (false)]) (by simp [results, Try.results53, go_sem, Z, *]) rfl ⟨by simp [Z], (by repeat (first | exact HBw1.out | exact Below.refl _ _ | refine bl_alloc ?_ _ | refine bl_drewN ?_ _ | refine bl_trans (by assumption) ?_ | refine bl_set ?_ (by first | omega | (simp; done) | (simp; omega)) _))⟩
  cases h2 : okS b
  · have HO := Lib.hid (show okTm s a f g b = false by simp [okTm, h1, h2])
    rw [HO.out]
    go_enter Try.func53, Try.ntmps53
    go_wp2_with fail
    refine (spec_htGood _ _ _ _ _).mono ?_
    rintro e w1 ⟨rfl, hbw1⟩
    obtain ⟨hcw1, hfw1⟩ := bcell hbw1
    have hzw1 := bsize hbw1
    (try simp only [World.size_alloc, World.size_setCell] at hzw1)
    have kw1_0_0 : w1.cell? ⟨w.heap.size, 0, none⟩ = some (.int .i64 s) := by rw [hcw1 _ _ (by first | (simp; done) | omega | (simp; omega))]; first | assumption | (simp [go_sem]; done) | (simp [go_sem]; done) | (simp [go_sem, *]; done)
    have kw1_0_1 : w1.cell? ⟨w.heap.size, 1, none⟩ = some (.int .i64 a) := by rw [hcw1 _ _ (by first | (simp; done) | omega | (simp; omega))]; first | assumption | (simp [go_sem]; done) | (simp [go_sem]; done) | (simp [go_sem, *]; done)
    have kw1_0_2 : w1.cell? ⟨w.heap.size, 2, none⟩ = some (.int .i64 f) := by rw [hcw1 _ _ (by first | (simp; done) | omega | (simp; omega))]; first | assumption | (simp [go_sem]; done) | (simp [go_sem]; done) | (simp [go_sem, *]; done)
    have kw1_0_3 : w1.cell? ⟨w.heap.size, 3, none⟩ = some (.int .i64 g) := by rw [hcw1 _ _ (by first | (simp; done) | omega | (simp; omega))]; first | assumption | (simp [go_sem]; done) | (simp [go_sem]; done) | (simp [go_sem, *]; done)
    have sw1_0 : w.heap.size < w1.heap.size := by first | omega | (simp at *; omega)
    have kw1_1_0 : w1.cell? ⟨w.heap.size + 1, 0, none⟩ = some (.int .i64 0) := by rw [hcw1 _ _ (by first | (simp; done) | omega | (simp; omega))]; first | assumption | (simp [go_sem]; done) | (simp [go_sem]; done) | (simp [go_sem, *]; done)
    have fw1_1_0 : w1.frozen? ⟨w.heap.size + 1, 0, none⟩ = false := by rw [hfw1 _ _ (by first | (simp; done) | omega | (simp; omega))]; first | assumption | (simp [go_sem]; done) | (simp [go_sem]; done) | (simp [go_sem, *]; done)
    have kw1_1_1 : w1.cell? ⟨w.heap.size + 1, 1, none⟩ = some (.int .i64 0) := by rw [hcw1 _ _ (by first | (simp; done) | omega | (simp; omega))]; first | assumption | (simp [go_sem]; done) | (simp [go_sem]; done) | (simp [go_sem, *]; done)
    have fw1_1_1 : w1.frozen? ⟨w.heap.size + 1, 1, none⟩ = false := by rw [hfw1 _ _ (by first | (simp; done) | omega | (simp; omega))]; first | assumption | (simp [go_sem]; done) | (simp [go_sem]; done) | (simp [go_sem, *]; done)
    have kw1_1_2 : w1.cell? ⟨w.heap.size + 1, 2, none⟩ = some (.int .i64 0) := by rw [hcw1 _ _ (by first | (simp; done) | omega | (simp; omega))]; first | assumption | (simp [go_sem]; done) | (simp [go_sem]; done) | (simp [go_sem, *]; done)
    have fw1_1_2 : w1.frozen? ⟨w.heap.size + 1, 2, none⟩ = false := by rw [hfw1 _ _ (by first | (simp; done) | omega | (simp; omega))]; first | assumption | (simp [go_sem]; done) | (simp [go_sem]; done) | (simp [go_sem, *]; done)
    have kw1_1_3 : w1.cell? ⟨w.heap.size + 1, 3, none⟩ = some (.int .i64 0) := by rw [hcw1 _ _ (by first | (simp; done) | omega | (simp; omega))]; first | assumption | (simp [go_sem]; done) | (simp [go_sem]; done) | (simp [go_sem, *]; done)
    have fw1_1_3 : w1.frozen? ⟨w.heap.size + 1, 3, none⟩ = false := by rw [hfw1 _ _ (by first | (simp; done) | omega | (simp; omega))]; first | assumption | (simp [go_sem]; done) | (simp [go_sem]; done) | (simp [go_sem, *]; done)
    have sw1_1 : w.heap.size + 1 < w1.heap.size := by first | omega | (simp at *; omega)
    have hBw1 : Below w.heap.size w w1 := (by repeat (first | exact Below.refl _ _ | refine bl_alloc ?_ _ | refine bl_drewN ?_ _ | refine bl_trans (by assumption) ?_ | refine bl_set ?_ (by first | omega | (simp; done) | (simp; omega)) _))
    have HBw1 := Lib.hid hBw1
    clear hBw1 hcw1 hfw1 hbw1
    rw [h1]
    go_wp2_with fail
    refine (htLong1 _ _ _ _ rfl).mono ?_
    rintro e w' ⟨rfl, rfl⟩
    rw [allS1, h2]
    go_wp2
    refine bodyPost_ret (v := .tuple #[.agg #[.int .i64 (0), .int .i64 (0), .int .i64 (0), .int .i64 (0)], .bool (false)]) (by simp [results, Try.results53, go_sem, Z, *]) rfl ⟨by simp [Z], (by repeat (first | exact HBw1.out | exact Below.refl _ _ | refine bl_alloc ?_ _ | refine bl_drewN ?_ _ | refine bl_trans (by assumption) ?_ | refine bl_set ?_ (by first | omega | (simp; done) | (simp; omega)) _))⟩
  have HO := Lib.hid (show okTm s a f g b = okIs (s * b) (a * b) (f * b) (g * b) by simp [okTm, h1, h2])
  rw [HO.out]
  clear HO
  obtain ⟨⟨s0, s1⟩, ⟨a0, a1⟩, ⟨f0, f1⟩, ⟨g0, g1⟩, fg⟩ := okIs_true h1
  obtain ⟨b0, b1⟩ := okS_true h2
  obtain ⟨m0, m1⟩ := mul_bd2 (a := s) (b := b) (m := 100) (k := 2000) (by omega) (by omega) (by omega) (by omega)
  obtain ⟨m2, m3⟩ := mul_bd2 (a := a) (b := b) (m := 2000) (k := 2000) (by omega) (by omega) (by omega) (by omega)
  obtain ⟨m4, m5⟩ := mul_bd2 (a := f) (b := b) (m := 2000) (k := 2000) (by omega) (by omega) (by omega) (by omega)
  obtain ⟨m6, m7⟩ := mul_bd2 (a := g) (b := b) (m := 2000) (k := 2000) (by omega) (by omega) (by omega) (by omega)
  have HI := fun W => Lib.hid (spec_htGood (s * b) (a * b) (f * b) (g * b) W)
  cases h3 : okIs (s * b) (a * b) (f * b) (g * b)
  · go_enter Try.func53, Try.ntmps53
    go_wp2_with fail
    refine (spec_htGood _ _ _ _ _).mono ?_
    rintro e w1 ⟨rfl, hbw1⟩
    obtain ⟨hcw1, hfw1⟩ := bcell hbw1
    have hzw1 := bsize hbw1
    (try simp only [World.size_alloc, World.size_setCell] at hzw1)
    have kw1_0_0 : w1.cell? ⟨w.heap.size, 0, none⟩ = some (.int .i64 s) := by rw [hcw1 _ _ (by first | (simp; done) | omega | (simp; omega))]; first | assumption | (simp [go_sem]; done) | (simp [go_sem]; done) | (simp [go_sem, *]; done)
    have kw1_0_1 : w1.cell? ⟨w.heap.size, 1, none⟩ = some (.int .i64 a) := by rw [hcw1 _ _ (by first | (simp; done) | omega | (simp; omega))]; first | assumption | (simp [go_sem]; done) | (simp [go_sem]; done) | (simp [go_sem, *]; done)
    have kw1_0_2 : w1.cell? ⟨w.heap.size, 2, none⟩ = some (.int .i64 f) := by rw [hcw1 _ _ (by first | (simp; done) | omega | (simp; omega))]; first | assumption | (simp [go_sem]; done) | (simp [go_sem]; done) | (simp [go_sem, *]; done)
    have kw1_0_3 : w1.cell? ⟨w.heap.size, 3, none⟩ = some (.int .i64 g) := by rw [hcw1 _ _ (by first | (simp; done) | omega | (simp; omega))]; first | assumption | (simp [go_sem]; done) | (simp [go_sem]; done) | (simp [go_sem, *]; done)
    have sw1_0 : w.heap.size < w1.heap.size := by first | omega | (simp at *; omega)
    have kw1_1_0 : w1.cell? ⟨w.heap.size + 1, 0, none⟩ = some (.int .i64 0) := by rw [hcw1 _ _ (by first | (simp; done) | omega | (simp; omega))]; first | assumption | (simp [go_sem]; done) | (simp [go_sem]; done) | (simp [go_sem, *]; done)
    have fw1_1_0 : w1.frozen? ⟨w.heap.size + 1, 0, none⟩ = false := by rw [hfw1 _ _ (by first | (simp; done) | omega | (simp; omega))]; first | assumption | (simp [go_sem]; done) | (simp [go_sem]; done) | (simp [go_sem, *]; done)
    have kw1_1_1 : w1.cell? ⟨w.heap.size + 1, 1, none⟩ = some (.int .i64 0) := by rw [hcw1 _ _ (by first | (simp; done) | omega | (simp; omega))]; first | assumption | (simp [go_sem]; done) | (simp [go_sem]; done) | (simp [go_sem, *]; done)
    have fw1_1_1 : w1.frozen? ⟨w.heap.size + 1, 1, none⟩ = false := by rw [hfw1 _ _ (by first | (simp; done) | omega | (simp; omega))]; first | assumption | (simp [go_sem]; done) | (simp [go_sem]; done) | (simp [go_sem, *]; done)
    have kw1_1_2 : w1.cell? ⟨w.heap.size + 1, 2, none⟩ = some (.int .i64 0) := by rw [hcw1 _ _ (by first | (simp; done) | omega | (simp; omega))]; first | assumption | (simp [go_sem]; done) | (simp [go_sem]; done) | (simp [go_sem, *]; done)
    have fw1_1_2 : w1.frozen? ⟨w.heap.size + 1, 2, none⟩ = false := by rw [hfw1 _ _ (by first | (simp; done) | omega | (simp; omega))]; first | assumption | (simp [go_sem]; done) | (simp [go_sem]; done) | (simp [go_sem, *]; done)
    have kw1_1_3 : w1.cell? ⟨w.heap.size + 1, 3, none⟩ = some (.int .i64 0) := by rw [hcw1 _ _ (by first | (simp; done) | omega | (simp; omega))]; first | assumption | (simp [go_sem]; done) | (simp [go_sem]; done) | (simp [go_sem, *]; done)
    have fw1_1_3 : w1.frozen? ⟨w.heap.size + 1, 3, none⟩ = false := by rw [hfw1 _ _ (by first | (simp; done) | omega | (simp; omega))]; first | assumption | (simp [go_sem]; done) | (simp [go_sem]; done) | (simp [go_sem, *]; done)
    have sw1_1 : w.heap.size + 1 < w1.heap.size := by first | omega | (simp at *; omega)
    have hBw1 : Below w.heap.size w w1 := (by repeat (first | exact Below.refl _ _ | refine bl_alloc ?_ _ | refine bl_drewN ?_ _ | refine bl_trans (by assumption) ?_ | refine bl_set ?_ (by first | omega | (simp; done) | (simp; omega)) _))
    have HBw1 := Lib.hid hBw1
    clear hBw1 hcw1 hfw1 hbw1
    rw [h1]
    go_wp2_with fail
    refine (htLong1 _ _ _ _ rfl).mono ?_
    rintro e w' ⟨rfl, rfl⟩
    rw [allS1, h2]
    go_wp2_with fail
    refine ((HI _).out).mono ?_
    rintro e w2 ⟨rfl, hbw2⟩
    obtain ⟨hcw2, hfw2⟩ := bcell hbw2
    have hzw2 := bsize hbw2
    (try simp only [World.size_alloc, World.size_setCell] at hzw2)
    have hkw2 : Below w1.heap.size w1 w2 := (by repeat (first | exact Below.refl _ _ | refine bl_alloc ?_ _ | refine bl_drewN ?_ _ | refine bl_trans (by assumption) ?_ | refine bl_set ?_ (by first | omega | (simp; done) | (simp; omega)) _))
    have kw2_0_0 : w2.cell? ⟨w.heap.size, 0, none⟩ = some (.int .i64 s) := cell_after hkw2 sw1_0 kw1_0_0
    have kw2_0_1 : w2.cell? ⟨w.heap.size, 1, none⟩ = some (.int .i64 a) := cell_after hkw2 sw1_0 kw1_0_1
    have kw2_0_2 : w2.cell? ⟨w.heap.size, 2, none⟩ = some (.int .i64 f) := cell_after hkw2 sw1_0 kw1_0_2
    have kw2_0_3 : w2.cell? ⟨w.heap.size, 3, none⟩ = some (.int .i64 g) := cell_after hkw2 sw1_0 kw1_0_3
    have sw2_0 : w.heap.size < w2.heap.size := size_after hkw2 sw1_0
    have kw2_1_0 : w2.cell? ⟨w.heap.size + 1, 0, none⟩ = some (.int .i64 0) := cell_after hkw2 sw1_1 kw1_1_0
    have fw2_1_0 : w2.frozen? ⟨w.heap.size + 1, 0, none⟩ = false := frozen_after hkw2 sw1_1 fw1_1_0
    have kw2_1_1 : w2.cell? ⟨w.heap.size + 1, 1, none⟩ = some (.int .i64 0) := cell_after hkw2 sw1_1 kw1_1_1
    have fw2_1_1 : w2.frozen? ⟨w.heap.size + 1, 1, none⟩ = false := frozen_after hkw2 sw1_1 fw1_1_1
    have kw2_1_2 : w2.cell? ⟨w.heap.size + 1, 2, none⟩ = some (.int .i64 0) := cell_after hkw2 sw1_1 kw1_1_2
    have fw2_1_2 : w2.frozen? ⟨w.heap.size + 1, 2, none⟩ = false := frozen_after hkw2 sw1_1 fw1_1_2
    have kw2_1_3 : w2.cell? ⟨w.heap.size + 1, 3, none⟩ = some (.int .i64 0) := cell_after hkw2 sw1_1 kw1_1_3
    have fw2_1_3 : w2.frozen? ⟨w.heap.size + 1, 3, none⟩ = false := frozen_after hkw2 sw1_1 fw1_1_3
    have sw2_1 : w.heap.size + 1 < w2.heap.size := size_after hkw2 sw1_1
    have kw2_2_0 : w2.cell? ⟨w1.heap.size + 1, 0, none⟩ = some (.int .i64 (s * b)) := by rw [hcw2 _ _ (by first | (simp; done) | omega | (simp; omega))]; first | assumption | (simp [go_sem]; done) | (simp [go_sem, kw1_0_0, kw1_0_1, kw1_0_2, kw1_0_3, kw1_1_0, kw1_1_1, kw1_1_2, kw1_1_3, fw1_1_0, fw1_1_1, fw1_1_2, fw1_1_3]; done) | (simp [go_sem, *]; done)
    have kw2_2_1 : w2.cell? ⟨w1.heap.size + 1, 1, none⟩ = some (.int .i64 (a * b)) := by rw [hcw2 _ _ (by first | (simp; done) | omega | (simp; omega))]; first | assumption | (simp [go_sem]; done) | (simp [go_sem, kw1_0_0, kw1_0_1, kw1_0_2, kw1_0_3, kw1_1_0, kw1_1_1, kw1_1_2, kw1_1_3, fw1_1_0, fw1_1_1, fw1_1_2, fw1_1_3]; done) | (simp [go_sem, *]; done)
    have kw2_2_2 : w2.cell? ⟨w1.heap.size + 1, 2, none⟩ = some (.int .i64 (f * b)) := by rw [hcw2 _ _ (by first | (simp; done) | omega | (simp; omega))]; first | assumption | (simp [go_sem]; done) | (simp [go_sem, kw1_0_0, kw1_0_1, kw1_0_2, kw1_0_3, kw1_1_0, kw1_1_1, kw1_1_2, kw1_1_3, fw1_1_0, fw1_1_1, fw1_1_2, fw1_1_3]; done) | (simp [go_sem, *]; done)
    have kw2_2_3 : w2.cell? ⟨w1.heap.size + 1, 3, none⟩ = some (.int .i64 (g * b)) := by rw [hcw2 _ _ (by first | (simp; done) | omega | (simp; omega))]; first | assumption | (simp [go_sem]; done) | (simp [go_sem, kw1_0_0, kw1_0_1, kw1_0_2, kw1_0_3, kw1_1_0, kw1_1_1, kw1_1_2, kw1_1_3, fw1_1_0, fw1_1_1, fw1_1_2, fw1_1_3]; done) | (simp [go_sem, *]; done)
    have sw2_2 : w1.heap.size + 1 < w2.heap.size := by first | omega | (simp at *; omega)
    have hBw2 : Below w.heap.size w w2 := (by repeat (first | exact HBw1.out | exact Below.refl _ _ | refine bl_alloc ?_ _ | refine bl_drewN ?_ _ | refine bl_trans (by assumption) ?_ | refine bl_set ?_ (by first | omega | (simp; done) | (simp; omega)) _))
    have HBw2 := Lib.hid hBw2
    clear hBw2 hcw2 hfw2 hbw2 hkw2 kw1_0_0 kw1_0_1 kw1_0_2 kw1_0_3 sw1_0 kw1_1_0 kw1_1_1 kw1_1_2 kw1_1_3 fw1_1_0 fw1_1_1 fw1_1_2 fw1_1_3 sw1_1
    rw [h3]
    go_wp2
    refine bodyPost_ret (v := .tuple #[.agg #[.int .i64 (0), .int .i64 (0), .int .i64 (0), .int .i64 (0)], .bool (false)]) (by simp [results, Try.results53, go_sem, Z, *]) rfl ⟨by simp [Z], (by repeat (first | exact HBw2.out | exact Below.refl _ _ | refine bl_alloc ?_ _ | refine bl_drewN ?_ _ | refine bl_trans (by assumption) ?_ | refine bl_set ?_ (by first | omega | (simp; done) | (simp; omega)) _))⟩
  · go_enter Try.func53, Try.ntmps53
    go_wp2_with fail
    refine (spec_htGood _ _ _ _ _).mono ?_
    rintro e w1 ⟨rfl, hbw1⟩
    obtain ⟨hcw1, hfw1⟩ := bcell hbw1
    have hzw1 := bsize hbw1
    (try simp only [World.size_alloc, World.size_setCell] at hzw1)
    have kw1_0_0 : w1.cell? ⟨w.heap.size, 0, none⟩ = some (.int .i64 s) := by rw [hcw1 _ _ (by first | (simp; done) | omega | (simp; omega))]; first | assumption | (simp [go_sem]; done) | (simp [go_sem]; done) | (simp [go_sem, *]; done)
    have kw1_0_1 : w1.cell? ⟨w.heap.size, 1, none⟩ = some (.int .i64 a) := by rw [hcw1 _ _ (by first | (simp; done) | omega | (simp; omega))]; first | assumption | (simp [go_sem]; done) | (simp [go_sem]; done) | (simp [go_sem, *]; done)
    have kw1_0_2 : w1.cell? ⟨w.heap.size, 2, none⟩ = some (.int .i64 f) := by rw [hcw1 _ _ (by first | (simp; done) | omega | (simp; omega))]; first | assumption | (simp [go_sem]; done) | (simp [go_sem]; done) | (simp [go_sem, *]; done)
    have kw1_0_3 : w1.cell? ⟨w.heap.size, 3, none⟩ = some (.int .i64 g) := by rw [hcw1 _ _ (by first | (simp; done) | omega | (simp; omega))]; first | assumption | (simp [go_sem]; done) | (simp [go_sem]; done) | (simp [go_sem, *]; done)
    have sw1_0 : w.heap.size < w1.heap.size := by first | omega | (simp at *; omega)
    have kw1_1_0 : w1.cell? ⟨w.heap.size + 1, 0, none⟩ = some (.int .i64 0) := by rw [hcw1 _ _ (by first | (simp; done) | omega | (simp; omega))]; first | assumption | (simp [go_sem]; done) | (simp [go_sem]; done) | (simp [go_sem, *]; done)
    have fw1_1_0 : w1.frozen? ⟨w.heap.size + 1, 0, none⟩ = false := by rw [hfw1 _ _ (by first | (simp; done) | omega | (simp; omega))]; first | assumption | (simp [go_sem]; done) | (simp [go_sem]; done) | (simp [go_sem, *]; done)
    have kw1_1_1 : w1.cell? ⟨w.heap.size + 1, 1, none⟩ = some (.int .i64 0) := by rw [hcw1 _ _ (by first | (simp; done) | omega | (simp; omega))]; first | assumption | (simp [go_sem]; done) | (simp [go_sem]; done) | (simp [go_sem, *]; done)
    have fw1_1_1 : w1.frozen? ⟨w.heap.size + 1, 1, none⟩ = false := by rw [hfw1 _ _ (by first | (simp; done) | omega | (simp; omega))]; first | assumption | (simp [go_sem]; done) | (simp [go_sem]; done) | (simp [go_sem, *]; done)
    have kw1_1_2 : w1.cell? ⟨w.heap.size + 1, 2, none⟩ = some (.int .i64 0) := by rw [hcw1 _ _ (by first | (simp; done) | omega | (simp; omega))]; first | assumption | (simp [go_sem]; done) | (simp [go_sem]; done) | (simp [go_sem, *]; done)
    have fw1_1_2 : w1.frozen? ⟨w.heap.size + 1, 2, none⟩ = false := by rw [hfw1 _ _ (by first | (simp; done) | omega | (simp; omega))]; first | assumption | (simp [go_sem]; done) | (simp [go_sem]; done) | (simp [go_sem, *]; done)
    have kw1_1_3 : w1.cell? ⟨w.heap.size + 1, 3, none⟩ = some (.int .i64 0) := by rw [hcw1 _ _ (by first | (simp; done) | omega | (simp; omega))]; first | assumption | (simp [go_sem]; done) | (simp [go_sem]; done) | (simp [go_sem, *]; done)
    have fw1_1_3 : w1.frozen? ⟨w.heap.size + 1, 3, none⟩ = false := by rw [hfw1 _ _ (by first | (simp; done) | omega | (simp; omega))]; first | assumption | (simp [go_sem]; done) | (simp [go_sem]; done) | (simp [go_sem, *]; done)
    have sw1_1 : w.heap.size + 1 < w1.heap.size := by first | omega | (simp at *; omega)
    have hBw1 : Below w.heap.size w w1 := (by repeat (first | exact Below.refl _ _ | refine bl_alloc ?_ _ | refine bl_drewN ?_ _ | refine bl_trans (by assumption) ?_ | refine bl_set ?_ (by first | omega | (simp; done) | (simp; omega)) _))
    have HBw1 := Lib.hid hBw1
    clear hBw1 hcw1 hfw1 hbw1
    rw [h1]
    go_wp2_with fail
    refine (htLong1 _ _ _ _ rfl).mono ?_
    rintro e w' ⟨rfl, rfl⟩
    rw [allS1, h2]
    go_wp2_with fail
    refine ((HI _).out).mono ?_
    rintro e w2 ⟨rfl, hbw2⟩
    obtain ⟨hcw2, hfw2⟩ := bcell hbw2
    have hzw2 := bsize hbw2
    (try simp only [World.size_alloc, World.size_setCell] at hzw2)
    have hkw2 : Below w1.heap.size w1 w2 := (by repeat (first | exact Below.refl _ _ | refine bl_alloc ?_ _ | refine bl_drewN ?_ _ | refine bl_trans (by assumption) ?_ | refine bl_set ?_ (by first | omega | (simp; done) | (simp; omega)) _))
    have kw2_0_0 : w2.cell? ⟨w.heap.size, 0, none⟩ = some (.int .i64 s) := cell_after hkw2 sw1_0 kw1_0_0
    have kw2_0_1 : w2.cell? ⟨w.heap.size, 1, none⟩ = some (.int .i64 a) := cell_after hkw2 sw1_0 kw1_0_1
    have kw2_0_2 : w2.cell? ⟨w.heap.size, 2, none⟩ = some (.int .i64 f) := cell_after hkw2 sw1_0 kw1_0_2
    have kw2_0_3 : w2.cell? ⟨w.heap.size, 3, none⟩ = some (.int .i64 g) := cell_after hkw2 sw1_0 kw1_0_3
    have sw2_0 : w.heap.size < w2.heap.size := size_after hkw2 sw1_0
    have kw2_1_0 : w2.cell? ⟨w.heap.size + 1, 0, none⟩ = some (.int .i64 0) := cell_after hkw2 sw1_1 kw1_1_0
    have fw2_1_0 : w2.frozen? ⟨w.heap.size + 1, 0, none⟩ = false := frozen_after hkw2 sw1_1 fw1_1_0
    have kw2_1_1 : w2.cell? ⟨w.heap.size + 1, 1, none⟩ = some (.int .i64 0) := cell_after hkw2 sw1_1 kw1_1_1
    have fw2_1_1 : w2.frozen? ⟨w.heap.size + 1, 1, none⟩ = false := frozen_after hkw2 sw1_1 fw1_1_1
    have kw2_1_2 : w2.cell? ⟨w.heap.size + 1, 2, none⟩ = some (.int .i64 0) := cell_after hkw2 sw1_1 kw1_1_2
    have fw2_1_2 : w2.frozen? ⟨w.heap.size + 1, 2, none⟩ = false := frozen_after hkw2 sw1_1 fw1_1_2
    have kw2_1_3 : w2.cell? ⟨w.heap.size + 1, 3, none⟩ = some (.int .i64 0) := cell_after hkw2 sw1_1 kw1_1_3
    have fw2_1_3 : w2.frozen? ⟨w.heap.size + 1, 3, none⟩ = false := frozen_after hkw2 sw1_1 fw1_1_3
    have sw2_1 : w.heap.size + 1 < w2.heap.size := size_after hkw2 sw1_1
    have kw2_2_0 : w2.cell? ⟨w1.heap.size + 1, 0, none⟩ = some (.int .i64 (s * b)) := by rw [hcw2 _ _ (by first | (simp; done) | omega | (simp; omega))]; first | assumption | (simp [go_sem]; done) | (simp [go_sem, kw1_0_0, kw1_0_1, kw1_0_2, kw1_0_3, kw1_1_0, kw1_1_1, kw1_1_2, kw1_1_3, fw1_1_0, fw1_1_1, fw1_1_2, fw1_1_3]; done) | (simp [go_sem, *]; done)
    have kw2_2_1 : w2.cell? ⟨w1.heap.size + 1, 1, none⟩ = some (.int .i64 (a * b)) := by rw [hcw2 _ _ (by first | (simp; done) | omega | (simp; omega))]; first | assumption | (simp [go_sem]; done) | (simp [go_sem, kw1_0_0, kw1_0_1, kw1_0_2, kw1_0_3, kw1_1_0, kw1_1_1, kw1_1_2, kw1_1_3, fw1_1_0, fw1_1_1, fw1_1_2, fw1_1_3]; done) | (simp [go_sem, *]; done)
    have kw2_2_2 : w2.cell? ⟨w1.heap.size + 1, 2, none⟩ = some (.int .i64 (f * b)) := by rw [hcw2 _ _ (by first | (simp; done) | omega | (simp; omega))]; first | assumption | (simp [go_sem]; done) | (simp [go_sem, kw1_0_0, kw1_0_1, kw1_0_2, kw1_0_3, kw1_1_0, kw1_1_1, kw1_1_2, kw1_1_3, fw1_1_0, fw1_1_1, fw1_1_2, fw1_1_3]; done) | (simp [go_sem, *]; done)
    have kw2_2_3 : w2.cell? ⟨w1.heap.size + 1, 3, none⟩ = some (.int .i64 (g * b)) := by rw [hcw2 _ _ (by first | (simp; done) | omega | (simp; omega))]; first | assumption | (simp [go_sem]; done) | (simp [go_sem, kw1_0_0, kw1_0_1, kw1_0_2, kw1_0_3, kw1_1_0, kw1_1_1, kw1_1_2, kw1_1_3, fw1_1_0, fw1_1_1, fw1_1_2, fw1_1_3]; done) | (simp [go_sem, *]; done)
    have sw2_2 : w1.heap.size + 1 < w2.heap.size := by first | omega | (simp at *; omega)
    have hBw2 : Below w.heap.size w w2 := (by repeat (first | exact HBw1.out | exact Below.refl _ _ | refine bl_alloc ?_ _ | refine bl_drewN ?_ _ | refine bl_trans (by assumption) ?_ | refine bl_set ?_ (by first | omega | (simp; done) | (simp; omega)) _))
    have HBw2 := Lib.hid hBw2
    clear hBw2 hcw2 hfw2 hbw2 hkw2 kw1_0_0 kw1_0_1 kw1_0_2 kw1_0_3 sw1_0 kw1_1_0 kw1_1_1 kw1_1_2 kw1_1_3 fw1_1_0 fw1_1_1 fw1_1_2 fw1_1_3 sw1_1
    rw [h3]
    go_wp2
    refine bodyPost_ret (v := .tuple #[.agg #[.int .i64 (s * b), .int .i64 (a * b), .int .i64 (f * b), .int .i64 (g * b)], .bool true]) (by simp [results, Try.results53, go_sem, Z, *]) rfl ⟨by simp [Z], (by repeat (first | exact HBw2.out | exact Below.refl _ _ | refine bl_alloc ?_ _ | refine bl_drewN ?_ _ | refine bl_trans (by assumption) ?_ | refine bl_set ?_ (by first | omega | (simp; done) | (simp; omega)) _))⟩
end Go.Proofs.Ytdlknbdgbmjkpaa

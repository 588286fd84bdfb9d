/- Chapter 8: sights, steps for islands, islands times as great. -/
import Derived.Test.YtggoeaahagelfaaHT4
namespace Go.Proofs.Ytggoeaahagelfaa
open Go.RowKit
set_option linter.unusedVariables false
set_option linter.unusedSimpArgs false
def okSg (n f k : Int) : Bool := allS [n, f, k] && decide (n < f)
theorem okSg_true {n f k : Int} (h : okSg n f k = true) : (1 ≤ n ∧ n ≤ 2000) ∧ (1 ≤ f ∧ f ≤ 2000) ∧ (1 ≤ k ∧ k ≤ 2000) ∧ n < f := by
  simp only [okSg, Bool.and_eq_true, decide_eq_true_eq] at h
  obtain ⟨p, q, r⟩ := allS3_true h.1
  exact ⟨p, q, r, h.2⟩
set_option maxHeartbeats 400000 in
theorem htSights_any (n f k : Int) (w : World) :
    Calls Try.prog 39 #[.int .i64 n, .int .i64 f, .int .i64 k] w fun e w' => e = .returned (.bool (okSg n f k)) ∧ Below w.heap.size w w' := by
  cases h1 : allS [n, f, k]
  case false =>
    go_enter Try.func39, Try.ntmps39
    go_wp2_with fail
    refine (htLong3 _ _ _ _ _ _ rfl).mono ?_
    rintro e w' ⟨rfl, rfl⟩
    rw [h1]
    go_wp2
    go_ret
    exact ⟨by simp [okSg, h1], (by repeat (first | exact Below.refl _ _ | refine bl_alloc ?_ _ | refine bl_drewN ?_ _ | refine bl_trans (by assumption) ?_ | refine bl_set ?_ (by first | omega | (simp; done) | (simp; omega)) _))⟩
  have HO := Lib.hid (show okSg n f k = decide (n < f) by simp [okSg, h1])
  go_enter Try.func39, Try.ntmps39
  go_wp2_with fail
  refine (htLong3 _ _ _ _ _ _ rfl).mono ?_
  rintro e w' ⟨rfl, rfl⟩
  rw [h1]
  go_wp2
  all_goals (go_ret; exact ⟨by rw [HO.out]; simp, (by repeat (first | exact Below.refl _ _ | refine bl_alloc ?_ _ | refine bl_drewN ?_ _ | refine bl_trans (by assumption) ?_ | refine bl_set ?_ (by first | omega | (simp; done) | (simp; omega)) _))⟩)
def okTowerByTwoSights (n f k : Int) : Bool := (allS [n, f, k]) && (decide (n < f))
set_option maxHeartbeats 1000000 in
theorem impl_TowerByTwoSights (n f k : Int) (w : World) :
    Calls Try.prog 24 #[.int .i64 n, .int .i64 f, .int .i64 k] w fun e w' => e = .returned (.tuple #[.int .i64 (Z (okTowerByTwoSights n f k) (ln (k) (f - n))), .int .i64 (Z (okTowerByTwoSights n f k) (ld (k) (f - n))), .bool (okTowerByTwoSights n f k)]) ∧ Below w.heap.size w w' := by
  cases h1 : allS [n, f, k]
  case false =>
    have HO := Lib.hid (show okTowerByTwoSights n f k = false by simp [okTowerByTwoSights, h1])
    go_enter Try.func24, Try.ntmps24
    go_wp2_with fail
    refine (areSteps3 _ _ _ _ _ _ rfl).mono ?_
    rintro e w' ⟨rfl, rfl⟩
    rw [h1]
    go_wp2
    go_ret3
    exact ⟨by simp [HO.out, Z], (by repeat (first | exact Below.refl _ _ | refine bl_alloc ?_ _ | refine bl_drewN ?_ _ | refine bl_trans (by assumption) ?_ | refine bl_set ?_ (by first | omega | (simp; done) | (simp; omega)) _))⟩
  by_cases h2 : n < f
  case neg =>
    have HO := Lib.hid (show okTowerByTwoSights n f k = false by simp [okTowerByTwoSights, h1, h2])
    go_enter Try.func24, Try.ntmps24
    go_wp2_with fail
    refine (areSteps3 _ _ _ _ _ _ rfl).mono ?_
    rintro e w' ⟨rfl, rfl⟩
    rw [h1]
    go_wp2
    go_ret3
    exact ⟨by simp [HO.out, Z], (by repeat (first | exact Below.refl _ _ | refine bl_alloc ?_ _ | refine bl_drewN ?_ _ | refine bl_trans (by assumption) ?_ | refine bl_set ?_ (by first | omega | (simp; done) | (simp; omega)) _))⟩
  have HO := Lib.hid (show okTowerByTwoSights n f k = true by simp [okTowerByTwoSights, h1, h2])
  obtain ⟨⟨un0, un1⟩, ⟨uf0, uf1⟩, uk0, uk1⟩ := allS3_true h1
  obtain ⟨m0, m1⟩ := mul_bd2 (a := n) (b := k) (m := 2000) (k := 2000) (by omega) (by omega) (by omega) (by omega)
  obtain ⟨m2, m3⟩ := mul_bd2 (a := k) (b := n) (m := 2000) (k := 2000) (by omega) (by omega) (by omega) (by omega)
  have HP := fun v p W hv hp => Lib.hid (parts1 v (k) (f - n) p (by omega) (by omega) (by omega) (by omega) W hv hp)
  have HS := Lib.hid ((⟨rfl, rfl⟩ : Z true (ln (k) (f - n)) = ln (k) (f - n) ∧ Z true (ld (k) (f - n)) = ld (k) (f - n)))
  obtain ⟨⟨r0, r1⟩, r2, r3⟩ := lnd_bd (x := k) (d := f - n) (by first | omega | exact Int.mul_nonneg (by omega) (by omega)) (by omega)
  rw [HO.out, HS.out.1, HS.out.2]
  clear HS
  generalize ln (k) (f - n) = X at *
  generalize ld (k) (f - n) = Y at *
  go_enter Try.func24, Try.ntmps24
  go_wp2_with fail
  refine (areSteps3 _ _ _ _ _ _ rfl).mono ?_
  rintro e w' ⟨rfl, rfl⟩
  rw [h1]
  go_wp2_with fail
  refine (likeTriangles_any _ _).mono ?_
  rintro e w1 ⟨rfl, ⟨c1, z1⟩, hb1⟩
  (try simp only [World.size_alloc] at c1 z1)
  go_wp2_with fail
  refine ((HP _ _ _ (shows1 _ _ _ _ rfl) (cell_after (bl_alloc (Below.refl _ _) _) z1 c1)).out).mono ?_
  rintro e w2 ⟨rfl, hb2⟩
  go_wp2_with fail
  refine (told_any _ _ _).mono ?_
  rintro e w4 ⟨rfl, hb4⟩
  go_wp2
  go_ret3
  exact ⟨rfl, (by repeat (first | exact Below.refl _ _ | refine bl_alloc ?_ _ | refine bl_drewN ?_ _ | refine bl_trans (by assumption) ?_ | refine bl_set ?_ (by first | omega | (simp; done) | (simp; omega)) _))⟩
theorem okTowerByTwoSights_is (n f k : Int) : okTowerByTwoSights n f k = okSg n f k := rfl
set_option maxHeartbeats 1000000 in
theorem spec_TowerByTwoSights (n f k : Int) (w : World) :
    Calls Try.prog 25 #[.int .i64 n, .int .i64 f, .int .i64 k] w fun e w' => e = .returned (.tuple #[.int .i64 (Z (okTowerByTwoSights n f k) (ln (k) (f - n))), .int .i64 (Z (okTowerByTwoSights n f k) (ld (k) (f - n))), .bool (okTowerByTwoSights n f k)]) ∧ Below w.heap.size w w' := by
  rw [okTowerByTwoSights_is]
  cases h : okSg n f k
  · go_enter Try.func25, Try.ntmps25
    go_wp2_with fail
    refine (htSights_any _ _ _ _).mono ?_
    rintro e w1 ⟨rfl, hb1⟩
    rw [h]
    go_wp2
    go_ret3
    exact ⟨by simp [Z], (by repeat (first | exact Below.refl _ _ | refine bl_alloc ?_ _ | refine bl_drewN ?_ _ | refine bl_trans (by assumption) ?_ | refine bl_set ?_ (by first | omega | (simp; done) | (simp; omega)) _))⟩
  obtain ⟨⟨n0, n1⟩, ⟨f0, f1⟩, ⟨k0, k1⟩, nf⟩ := okSg_true h
  obtain ⟨m0, m1⟩ := mul_bd2 (a := k) (b := n) (m := 2000) (k := 2000) (by omega) (by omega) (by omega) (by omega)
  have HL := fun W => Lib.hid (clLow_any (k) (f - n) (by omega) (by omega) (by omega) (by omega) W)
  rw [Z_true, Z_true]
  generalize ln (k) (f - n) = X at *
  generalize ld (k) (f - n) = Y at *
  go_enter Try.func25, Try.ntmps25
  go_wp2_with fail
  refine (htSights_any _ _ _ _).mono ?_
  rintro e w1 ⟨rfl, hb1⟩
  rw [h]
  go_wp2_with fail
  refine ((HL _).out).mono ?_
  rintro e w' ⟨rfl, m, rfl⟩
  go_wp2
  go_ret3
  exact ⟨rfl, (by repeat (first | exact Below.refl _ _ | refine bl_alloc ?_ _ | refine bl_drewN ?_ _ | refine bl_trans (by assumption) ?_ | refine bl_set ?_ (by first | omega | (simp; done) | (simp; omega)) _))⟩
def okDistanceByTwoSights (n f k : Int) : Bool := (allS [n, f, k]) && (decide (n < f))
set_option maxHeartbeats 1000000 in
theorem impl_DistanceByTwoSights (n f k : Int) (w : World) :
    Calls Try.prog 26 #[.int .i64 n, .int .i64 f, .int .i64 k] w fun e w' => e = .returned (.tuple #[.int .i64 (Z (okDistanceByTwoSights n f k) (ln (k * n) (f - n))), .int .i64 (Z (okDistanceByTwoSights n f k) (ld (k * n) (f - n))), .bool (okDistanceByTwoSights n f k)]) ∧ Below w.heap.size w w' := by
  cases h1 : allS [n, f, k]
  case false =>
    have HO := Lib.hid (show okDistanceByTwoSights n f k = false by simp [okDistanceByTwoSights, h1])
    go_enter Try.func26, Try.ntmps26
    go_wp2_with fail
    refine (areSteps3 _ _ _ _ _ _ rfl).mono ?_
    rintro e w' ⟨rfl, rfl⟩
    rw [h1]
    go_wp2
    go_ret3
    exact ⟨by simp [HO.out, Z], (by repeat (first | exact Below.refl _ _ | refine bl_alloc ?_ _ | refine bl_drewN ?_ _ | refine bl_trans (by assumption) ?_ | refine bl_set ?_ (by first | omega | (simp; done) | (simp; omega)) _))⟩
  by_cases h2 : n < f
  case neg =>
    have HO := Lib.hid (show okDistanceByTwoSights n f k = false by simp [okDistanceByTwoSights, h1, h2])
    go_enter Try.func26, Try.ntmps26
    go_wp2_with fail
    refine (areSteps3 _ _ _ _ _ _ rfl).mono ?_
    rintro e w' ⟨rfl, rfl⟩
    rw [h1]
    go_wp2
    go_ret3
    exact ⟨by simp [HO.out, Z], (by repeat (first | exact Below.refl _ _ | refine bl_alloc ?_ _ | refine bl_drewN ?_ _ | refine bl_trans (by assumption) ?_ | refine bl_set ?_ (by first | omega | (simp; done) | (simp; omega)) _))⟩
  have HO := Lib.hid (show okDistanceByTwoSights n f k = true by simp [okDistanceByTwoSights, h1, h2])
  obtain ⟨⟨un0, un1⟩, ⟨uf0, uf1⟩, uk0, uk1⟩ := allS3_true h1
  obtain ⟨m0, m1⟩ := mul_bd2 (a := n) (b := k) (m := 2000) (k := 2000) (by omega) (by omega) (by omega) (by omega)
  obtain ⟨m2, m3⟩ := mul_bd2 (a := k) (b := n) (m := 2000) (k := 2000) (by omega) (by omega) (by omega) (by omega)
  have HP := fun v p W hv hp => Lib.hid (parts2 v (n) (k) (f - n) p (by omega) (by omega) (by omega) (by omega) (by omega) (by omega) W hv hp)
  have HS := Lib.hid ((by rw [Int.mul_comm k n]; exact ⟨rfl, rfl⟩ : Z true (ln (k * n) (f - n)) = ln ((n) * (k)) (f - n) ∧ Z true (ld (k * n) (f - n)) = ld ((n) * (k)) (f - n)))
  obtain ⟨⟨r0, r1⟩, r2, r3⟩ := lnd_bd (x := (n) * (k)) (d := f - n) (by first | omega | exact Int.mul_nonneg (by omega) (by omega)) (by omega)
  rw [HO.out, HS.out.1, HS.out.2]
  clear HS
  generalize ln ((n) * (k)) (f - n) = X at *
  generalize ld ((n) * (k)) (f - n) = Y at *
  go_enter Try.func26, Try.ntmps26
  go_wp2_with fail
  refine (areSteps3 _ _ _ _ _ _ rfl).mono ?_
  rintro e w' ⟨rfl, rfl⟩
  rw [h1]
  go_wp2_with fail
  refine (likeTriangles_any _ _).mono ?_
  rintro e w1 ⟨rfl, ⟨c1, z1⟩, hb1⟩
  (try simp only [World.size_alloc] at c1 z1)
  go_wp2_with fail
  refine ((HP _ _ _ (shows2 _ _ _ _ _ rfl) (cell_after (bl_alloc (Below.refl _ _) _) z1 c1)).out).mono ?_
  rintro e w2 ⟨rfl, hb2⟩
  go_wp2_with fail
  refine (told_any _ _ _).mono ?_
  rintro e w4 ⟨rfl, hb4⟩
  go_wp2
  go_ret3
  exact ⟨rfl, (by repeat (first | exact Below.refl _ _ | refine bl_alloc ?_ _ | refine bl_drewN ?_ _ | refine bl_trans (by assumption) ?_ | refine bl_set ?_ (by first | omega | (simp; done) | (simp; omega)) _))⟩
theorem okDistanceByTwoSights_is (n f k : Int) : okDistanceByTwoSights n f k = okSg n f k := rfl
set_option maxHeartbeats 1000000 in
theorem spec_DistanceByTwoSights (n f k : Int) (w : World) :
    Calls Try.prog 27 #[.int .i64 n, .int .i64 f, .int .i64 k] w fun e w' => e = .returned (.tuple #[.int .i64 (Z (okDistanceByTwoSights n f k) (ln (k * n) (f - n))), .int .i64 (Z (okDistanceByTwoSights n f k) (ld (k * n) (f - n))), .bool (okDistanceByTwoSights n f k)]) ∧ Below w.heap.size w w' := by
  rw [okDistanceByTwoSights_is]
  cases h : okSg n f k
  · go_enter Try.func27, Try.ntmps27
    go_wp2_with fail
    refine (htSights_any _ _ _ _).mono ?_
    rintro e w1 ⟨rfl, hb1⟩
    rw [h]
    go_wp2
    go_ret3
    exact ⟨by simp [Z], (by repeat (first | exact Below.refl _ _ | refine bl_alloc ?_ _ | refine bl_drewN ?_ _ | refine bl_trans (by assumption) ?_ | refine bl_set ?_ (by first | omega | (simp; done) | (simp; omega)) _))⟩
  obtain ⟨⟨n0, n1⟩, ⟨f0, f1⟩, ⟨k0, k1⟩, nf⟩ := okSg_true h
  obtain ⟨m0, m1⟩ := mul_bd2 (a := k) (b := n) (m := 2000) (k := 2000) (by omega) (by omega) (by omega) (by omega)
  have HL := fun W => Lib.hid (clLow_any (k * n) (f - n) (by omega) (by omega) (by omega) (by omega) W)
  rw [Z_true, Z_true]
  generalize ln (k * n) (f - n) = X at *
  generalize ld (k * n) (f - n) = Y at *
  go_enter Try.func27, Try.ntmps27
  go_wp2_with fail
  refine (htSights_any _ _ _ _).mono ?_
  rintro e w1 ⟨rfl, hb1⟩
  rw [h]
  go_wp2_with fail
  refine ((HL _).out).mono ?_
  rintro e w' ⟨rfl, m, rfl⟩
  go_wp2
  go_ret3
  exact ⟨rfl, (by repeat (first | exact Below.refl _ _ | refine bl_alloc ?_ _ | refine bl_drewN ?_ _ | refine bl_trans (by assumption) ?_ | refine bl_set ?_ (by first | omega | (simp; done) | (simp; omega)) _))⟩
def okStp (s a h b : Int) : Bool := okSt s && (allS [a, h, b] && decide (s < h))
def okTm (s a f g b : Int) : Bool := okIs s a f g && (okS b && okIs (s * b) (a * b) (f * b) (g * b))
end Go.Proofs.Ytggoeaahagelfaa

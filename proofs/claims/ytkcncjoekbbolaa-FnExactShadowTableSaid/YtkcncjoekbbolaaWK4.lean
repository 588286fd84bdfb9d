/- Chapter 6: what is told of a walker at a minute, by how much it changes, and when it is so much; by the program and by the model alike. -/
import Derived.Test.YtkcncjoekbbolaaWK2
namespace Go.Proofs.Ytkcncjoekbbolaa
open Go.RowKit
set_option linter.unusedVariables false
set_option linter.unusedSimpArgs false
set_option maxHeartbeats 400000 in
theorem l1Most_any (x y : Int) (w : World) :
    Calls Try.prog 90 #[.int .i64 x, .int .i64 y] w fun e w' => e = .returned (.int .i64 (max x y)) ∧ w = w' := by
  go_enter Try.func90, Try.ntmps90
  go_wp2
  all_goals (go_ret; exact ⟨ret_int (by show _ = max x y; omega), rfl⟩)
set_option maxHeartbeats 400000 in
theorem l1Least_any (x y : Int) (w : World) :
    Calls Try.prog 88 #[.int .i64 x, .int .i64 y] w fun e w' => e = .returned (.int .i64 (min x y)) ∧ w = w' := by
  go_enter Try.func88, Try.ntmps88
  go_wp2
  all_goals (go_ret; exact ⟨ret_int (by show _ = min x y; omega), rfl⟩)
set_option maxHeartbeats 400000 in
theorem l1Abs_any (x : Int) (h1 : -1000000000 ≤ x) (h2 : x ≤ 1000000000) (w : World) :
    Calls Try.prog 84 #[.int .i64 x] w fun e w' => e = .returned (.int .i64 (max x (-x))) ∧ w = w' := by
  go_enter Try.func84, Try.ntmps84
  go_wp2_with (go_at_call 90; refine (l1Most_any _ _ _).mono ?_; rintro e w' ⟨rfl, rfl⟩)
  go_ret
  exact ⟨rfl, rfl⟩
set_option maxHeartbeats 400000 in
theorem l1Sign_any (x : Int) (w : World) :
    Calls Try.prog 85 #[.int .i64 x] w fun e w' => e = .returned (.int .i64 (if 0 < x then 1 else if x < 0 then -1 else 0)) ∧ w = w' := by
  by_cases h : 0 < x
  · rw [if_pos h]
    go_enter Try.func85, Try.ntmps85
    go_wp2
    go_ret
    exact ⟨rfl, rfl⟩
  · rw [if_neg h]
    by_cases h2 : x < 0
    · rw [if_pos h2]
      go_enter Try.func85, Try.ntmps85
      go_wp2
      go_ret
      exact ⟨rfl, rfl⟩
    · rw [if_neg h2]
      go_enter Try.func85, Try.ntmps85
      go_wp2
      go_ret
      exact ⟨rfl, rfl⟩
set_option maxHeartbeats 1000000 in
theorem wkPlace_any (l h p s m : Int) (w : World) :
    Calls Try.prog 62 #[.int .i64 l, .agg #[.int .i64 h, .int .i64 p, .int .i64 s], .int .i64 m] w fun e w' => e = .returned (.tuple #[.int .i64 (Z (okAt l h p s m) (p + s * m)), .bool (okAt l h p s m)]) ∧ Below w.heap.size w w' := by
  have hA : okAt l h p s m = (okWk l h p s && (within m 0 60 && decide (0 ≤ p + s * m))) := rfl
  cases h1 : okWk l h p s
  · have HO := Lib.hid (show okAt l h p s m = false by rw [hA, h1]; rfl)
    clear hA
    go_enter Try.func62, Try.ntmps62
    go_wp2_with fail
    refine (spec_wkGood _ _ _ _ _).mono ?_
    rintro e w1 ⟨rfl, hbw1⟩
    obtain ⟨hcw1, hfw1⟩ := bcell hbw1
    have hzw1 := bsize hbw1
    (try simp only [World.size_alloc, World.size_setCell] at hzw1)
    have kw1_0_0 : w1.cell? ⟨w.heap.size, 0, none⟩ = some (.int .i64 h) := by rw [hcw1 _ _ (by first | (simp; done) | omega | (simp; omega))]; first | assumption | (simp [go_sem]; done) | (simp [go_sem]; done) | (simp [go_sem, *]; done)
    have kw1_0_1 : w1.cell? ⟨w.heap.size, 1, none⟩ = some (.int .i64 p) := by rw [hcw1 _ _ (by first | (simp; done) | omega | (simp; omega))]; first | assumption | (simp [go_sem]; done) | (simp [go_sem]; done) | (simp [go_sem, *]; done)
    have kw1_0_2 : w1.cell? ⟨w.heap.size, 2, none⟩ = some (.int .i64 s) := by rw [hcw1 _ _ (by first | (simp; done) | omega | (simp; omega))]; first | assumption | (simp [go_sem]; done) | (simp [go_sem]; done) | (simp [go_sem, *]; done)
    have sw1_0 : w.heap.size < w1.heap.size := by first | omega | (simp at *; omega)
    have hBw1 : Below w.heap.size w w1 := (by repeat (first | exact Below.refl _ _ | refine bl_alloc ?_ _ | refine bl_drewN ?_ _ | refine bl_trans (by assumption) ?_ | refine bl_set ?_ (by first | omega | (simp; done) | (simp; omega)) _))
    have HBw1 := Lib.hid hBw1
    clear hBw1 hcw1 hfw1 hbw1
    rw [h1]
    go_wp2
    go_ret2
    exact ⟨by simp [HO.out, Z], (by repeat (first | exact HBw1.out | exact Below.refl _ _ | refine bl_alloc ?_ _ | refine bl_drewN ?_ _ | refine bl_trans (by assumption) ?_ | refine bl_set ?_ (by first | omega | (simp; done) | (simp; omega)) _))⟩
  cases h2 : within m 0 60
  · have HO := Lib.hid (show okAt l h p s m = false by rw [hA, h1, h2]; rfl)
    clear hA
    go_enter Try.func62, Try.ntmps62
    go_wp2_with fail
    refine (spec_wkGood _ _ _ _ _).mono ?_
    rintro e w1 ⟨rfl, hbw1⟩
    obtain ⟨hcw1, hfw1⟩ := bcell hbw1
    have hzw1 := bsize hbw1
    (try simp only [World.size_alloc, World.size_setCell] at hzw1)
    have kw1_0_0 : w1.cell? ⟨w.heap.size, 0, none⟩ = some (.int .i64 h) := by rw [hcw1 _ _ (by first | (simp; done) | omega | (simp; omega))]; first | assumption | (simp [go_sem]; done) | (simp [go_sem]; done) | (simp [go_sem, *]; done)
    have kw1_0_1 : w1.cell? ⟨w.heap.size, 1, none⟩ = some (.int .i64 p) := by rw [hcw1 _ _ (by first | (simp; done) | omega | (simp; omega))]; first | assumption | (simp [go_sem]; done) | (simp [go_sem]; done) | (simp [go_sem, *]; done)
    have kw1_0_2 : w1.cell? ⟨w.heap.size, 2, none⟩ = some (.int .i64 s) := by rw [hcw1 _ _ (by first | (simp; done) | omega | (simp; omega))]; first | assumption | (simp [go_sem]; done) | (simp [go_sem]; done) | (simp [go_sem, *]; done)
    have sw1_0 : w.heap.size < w1.heap.size := by first | omega | (simp at *; omega)
    have hBw1 : Below w.heap.size w w1 := (by repeat (first | exact Below.refl _ _ | refine bl_alloc ?_ _ | refine bl_drewN ?_ _ | refine bl_trans (by assumption) ?_ | refine bl_set ?_ (by first | omega | (simp; done) | (simp; omega)) _))
    have HBw1 := Lib.hid hBw1
    clear hBw1 hcw1 hfw1 hbw1
    rw [h1]
    go_wp2_with fail
    refine (l1In_any _ _ _ _).mono ?_
    rintro e w' ⟨rfl, rfl⟩
    rw [h2]
    go_wp2
    go_ret2
    exact ⟨by simp [HO.out, Z], (by repeat (first | exact HBw1.out | exact Below.refl _ _ | refine bl_alloc ?_ _ | refine bl_drewN ?_ _ | refine bl_trans (by assumption) ?_ | refine bl_set ?_ (by first | omega | (simp; done) | (simp; omega)) _))⟩
  obtain ⟨⟨l1, l2⟩, ⟨g1, g2⟩, ⟨p1, p2⟩, s1, s2⟩ := okWk_true h1
  obtain ⟨m1, m2⟩ := within_true h2
  obtain ⟨f1, f2⟩ := mul_abs (a := s) (b := m) (m := 50) (k := 60) (by omega) (by omega) (by omega) (by omega)
  by_cases h3 : p + s * m < 0
  · have HO := Lib.hid (show okAt l h p s m = false by rw [hA, h1, h2, decide_eq_false (by omega)]; rfl)
    clear hA
    go_enter Try.func62, Try.ntmps62
    go_wp2_with fail
    refine (spec_wkGood _ _ _ _ _).mono ?_
    rintro e w1 ⟨rfl, hbw1⟩
    obtain ⟨hcw1, hfw1⟩ := bcell hbw1
    have hzw1 := bsize hbw1
    (try simp only [World.size_alloc, World.size_setCell] at hzw1)
    have kw1_0_0 : w1.cell? ⟨w.heap.size, 0, none⟩ = some (.int .i64 h) := by rw [hcw1 _ _ (by first | (simp; done) | omega | (simp; omega))]; first | assumption | (simp [go_sem]; done) | (simp [go_sem]; done) | (simp [go_sem, *]; done)
    have kw1_0_1 : w1.cell? ⟨w.heap.size, 1, none⟩ = some (.int .i64 p) := by rw [hcw1 _ _ (by first | (simp; done) | omega | (simp; omega))]; first | assumption | (simp [go_sem]; done) | (simp [go_sem]; done) | (simp [go_sem, *]; done)
    have kw1_0_2 : w1.cell? ⟨w.heap.size, 2, none⟩ = some (.int .i64 s) := by rw [hcw1 _ _ (by first | (simp; done) | omega | (simp; omega))]; first | assumption | (simp [go_sem]; done) | (simp [go_sem]; done) | (simp [go_sem, *]; done)
    have sw1_0 : w.heap.size < w1.heap.size := by first | omega | (simp at *; omega)
    have hBw1 : Below w.heap.size w w1 := (by repeat (first | exact Below.refl _ _ | refine bl_alloc ?_ _ | refine bl_drewN ?_ _ | refine bl_trans (by assumption) ?_ | refine bl_set ?_ (by first | omega | (simp; done) | (simp; omega)) _))
    have HBw1 := Lib.hid hBw1
    clear hBw1 hcw1 hfw1 hbw1
    rw [h1]
    go_wp2_with fail
    refine (l1In_any _ _ _ _).mono ?_
    rintro e w' ⟨rfl, rfl⟩
    rw [h2]
    go_wp2
    go_ret2
    exact ⟨by simp [HO.out, Z], (by repeat (first | exact HBw1.out | exact Below.refl _ _ | refine bl_alloc ?_ _ | refine bl_drewN ?_ _ | refine bl_trans (by assumption) ?_ | refine bl_set ?_ (by first | omega | (simp; done) | (simp; omega)) _))⟩
  · have HO := Lib.hid (show okAt l h p s m = true by rw [hA, h1, h2, decide_eq_true (by omega)]; rfl)
    clear hA
    go_enter Try.func62, Try.ntmps62
    go_wp2_with fail
    refine (spec_wkGood _ _ _ _ _).mono ?_
    rintro e w1 ⟨rfl, hbw1⟩
    obtain ⟨hcw1, hfw1⟩ := bcell hbw1
    have hzw1 := bsize hbw1
    (try simp only [World.size_alloc, World.size_setCell] at hzw1)
    have kw1_0_0 : w1.cell? ⟨w.heap.size, 0, none⟩ = some (.int .i64 h) := by rw [hcw1 _ _ (by first | (simp; done) | omega | (simp; omega))]; first | assumption | (simp [go_sem]; done) | (simp [go_sem]; done) | (simp [go_sem, *]; done)
    have kw1_0_1 : w1.cell? ⟨w.heap.size, 1, none⟩ = some (.int .i64 p) := by rw [hcw1 _ _ (by first | (simp; done) | omega | (simp; omega))]; first | assumption | (simp [go_sem]; done) | (simp [go_sem]; done) | (simp [go_sem, *]; done)
    have kw1_0_2 : w1.cell? ⟨w.heap.size, 2, none⟩ = some (.int .i64 s) := by rw [hcw1 _ _ (by first | (simp; done) | omega | (simp; omega))]; first | assumption | (simp [go_sem]; done) | (simp [go_sem]; done) | (simp [go_sem, *]; done)
    have sw1_0 : w.heap.size < w1.heap.size := by first | omega | (simp at *; omega)
    have hBw1 : Below w.heap.size w w1 := (by repeat (first | exact Below.refl _ _ | refine bl_alloc ?_ _ | refine bl_drewN ?_ _ | refine bl_trans (by assumption) ?_ | refine bl_set ?_ (by first | omega | (simp; done) | (simp; omega)) _))
    have HBw1 := Lib.hid hBw1
    clear hBw1 hcw1 hfw1 hbw1
    rw [h1]
    go_wp2_with fail
    refine (l1In_any _ _ _ _).mono ?_
    rintro e w' ⟨rfl, rfl⟩
    rw [h2]
    go_wp2
    go_ret2
    exact ⟨by rw [HO.out]; rfl, (by repeat (first | exact HBw1.out | exact Below.refl _ _ | refine bl_alloc ?_ _ | refine bl_drewN ?_ _ | refine bl_trans (by assumption) ?_ | refine bl_set ?_ (by first | omega | (simp; done) | (simp; omega)) _))⟩
set_option maxHeartbeats 1000000 in
theorem wkSigned_any (n a : Int) (h1 : -1000000 ≤ n) (h2 : n ≤ 1000000) (h3 : 1 ≤ a) (h4 : a ≤ 1000000) (w : World) :
    Calls Try.prog 68 #[.int .i64 n, .int .i64 a] w fun e w' => e = .returned (.tuple #[.int .i64 (lnI n a), .int .i64 (ldI n a)]) ∧ ∃ m, w' = w.drewN m := by
  have HA := fun W => Lib.hid (l1Abs_any n (by omega) (by omega) W)
  have HS := fun W => Lib.hid (l1Sign_any n W)
  have HL := fun W => Lib.hid (clLow_any (max n (-n)) a (by omega) (by omega) h3 (by omega) W)
  have hb := ln_bd (n := max n (-n)) (a := a) (by omega) h3
  obtain ⟨b1, b2⟩ := hb
  rcases (show n < 0 ∨ 0 < n ∨ n = 0 by omega) with g | g | g
  · have e0 : max n (-n) = -n := by omega
    rw [e0] at HA HL b1 b2
    rw [if_neg (by omega), if_pos g] at HS
    have e1 := Lib.hid (show lnI n a = -(ln (-n) a) from if_pos g)
    have e2 := Lib.hid (show ldI n a = ld (-n) a from if_pos g)
    generalize ln (-n) a = P at *
    generalize ld (-n) a = Q at *
    go_enter Try.func68, Try.ntmps68
    go_wp2_with fail
    refine ((HA _).out).mono ?_
    rintro e w' ⟨rfl, rfl⟩
    go_wp2_with fail
    refine ((HL _).out).mono ?_
    rintro e w' ⟨rfl, mm, rfl⟩
    go_wp2_with fail
    refine ((HS _).out).mono ?_
    rintro e w' ⟨rfl, rfl⟩
    go_wp2
    go_ret2
    exact ⟨by rw [e1.out, e2.out]; simp, mm, rfl⟩
  · have e0 : max n (-n) = n := by omega
    rw [e0] at HA HL b1 b2
    rw [if_pos g] at HS
    have e1 := Lib.hid (show lnI n a = ln n a from if_neg (by omega))
    have e2 := Lib.hid (show ldI n a = ld n a from if_neg (by omega))
    generalize ln n a = P at *
    generalize ld n a = Q at *
    go_enter Try.func68, Try.ntmps68
    go_wp2_with fail
    refine ((HA _).out).mono ?_
    rintro e w' ⟨rfl, rfl⟩
    go_wp2_with fail
    refine ((HL _).out).mono ?_
    rintro e w' ⟨rfl, mm, rfl⟩
    go_wp2_with fail
    refine ((HS _).out).mono ?_
    rintro e w' ⟨rfl, rfl⟩
    go_wp2
    go_ret2
    exact ⟨by rw [e1.out, e2.out]; simp, mm, rfl⟩
  · subst g
    have e0 : max (0 : Int) (-0) = 0 := by omega
    rw [e0] at HA HL b1 b2
    rw [if_neg (by omega), if_neg (by omega)] at HS
    have e1 := Lib.hid (show lnI 0 a = 0 by unfold lnI; rw [if_neg (by omega), ln_zero])
    have e2 := Lib.hid (show ldI 0 a = ld 0 a from if_neg (by omega))
    rw [ln_zero] at HL
    generalize ld 0 a = Q at *
    go_enter Try.func68, Try.ntmps68
    go_wp2_with fail
    refine ((HA _).out).mono ?_
    rintro e w' ⟨rfl, rfl⟩
    go_wp2_with fail
    refine ((HL _).out).mono ?_
    rintro e w' ⟨rfl, mm, rfl⟩
    go_wp2_with fail
    refine ((HS _).out).mono ?_
    rintro e w' ⟨rfl, rfl⟩
    go_wp2
    go_ret2
    exact ⟨by rw [e1.out, e2.out]; rfl, mm, rfl⟩
theorem eqM_scaled {s d way : Int} (hd : 1 ≤ d) : eqM way (s * d) = (if s < 0 then -way else way) := by
  unfold eqM
  by_cases h : s < 0
  · rw [if_pos h, if_pos (by
      have := Int.mul_le_mul_of_nonneg_right (show s ≤ -1 by omega) (show 0 ≤ d by omega)
      omega)]
  · rw [if_neg h, if_neg (by
      have := Int.mul_nonneg (show 0 ≤ s by omega) (show 0 ≤ d by omega)
      omega)]
theorem eqG_scaled {s d : Int} (hd : 1 ≤ d) : eqG (s * d) = d * (if s < 0 then -s else s) := by
  unfold eqG
  by_cases h : s < 0
  · rw [if_pos h, if_pos (by
      have := Int.mul_le_mul_of_nonneg_right (show s ≤ -1 by omega) (show 0 ≤ d by omega)
      omega), Int.mul_neg, Int.mul_comm]
  · rw [if_neg h, if_neg (by
      have := Int.mul_nonneg (show 0 ≤ s by omega) (show 0 ≤ d by omega)
      omega), Int.mul_comm]
set_option maxHeartbeats 2000000 in
theorem wkWhen_any (h p s n d : Int) (p1 : 0 ≤ p) (p2 : p ≤ 500) (s1 : -50 ≤ s) (s2 : s ≤ 50) (n1 : 0 ≤ n) (n2 : n ≤ 100000) (d1 : 1 ≤ d) (d2 : d ≤ 200) (w : World) :
    Calls Try.prog 70 #[.agg #[.int .i64 h, .int .i64 p, .int .i64 s], .int .i64 n, .int .i64 d] w fun e w' => e = .returned (.tuple #[.int .i64 (Z (eqOk (n - p * d) (s * d)) (ln (eqM (n - p * d) (s * d)) (eqG (s * d)))), .int .i64 (Z (eqOk (n - p * d) (s * d)) (ld (eqM (n - p * d) (s * d)) (eqG (s * d)))), .bool (eqOk (n - p * d) (s * d))]) ∧ Below w.heap.size w w' := by
  obtain ⟨f1, f2⟩ := mul_bd2 (a := p) (b := d) (m := 500) (k := 200) (by omega) (by omega) (by omega) (by omega)
  have hM := eqM_scaled (s := s) (d := d) (way := n - p * d) d1
  have hG := eqG_scaled (s := s) (d := d) d1
  have hO : eqOk (n - p * d) (s * d) = (!(eqG (s * d) == 0) && !decide (eqM (n - p * d) (s * d) < 0)) := rfl
  generalize eqM (n - p * d) (s * d) = M at *
  generalize eqG (s * d) = G at *
  generalize eqOk (n - p * d) (s * d) = OK at *
  have HAB := fun W => Lib.hid (l1Abs_any s (by omega) (by omega) W)
  by_cases g : s < 0
  · rw [if_pos g] at hM hG
    rw [show max s (-s) = -s by omega] at HAB
    have gz : (s == 0) = false := by simp; omega
    obtain ⟨f3, f4⟩ := mul_bd2 (a := d) (b := -s) (m := 200) (k := 50) (by omega) (by omega) (by omega) (by omega)
    have f5 := Int.mul_le_mul (a := 1) (b := 1) (c := d) (d := -s) (by omega) (by omega) (by omega) (by omega)
    by_cases q : n < p * d ∨ n = p * d
    · have q1 : ¬ p * d < n := by omega
      have HO := Lib.hid (show OK = true by rw [hO, hM, hG]; simp; omega)
      have HL := fun W => Lib.hid (clLow_any M G (by omega) (by omega) (by omega) (by omega) W)
      rw [hM, hG] at HL
      subst hM hG
      clear hO q
      go_enter Try.func70, Try.ntmps70
      go_wp2_with fail
      refine ((HAB _).out).mono ?_
      rintro e w' ⟨rfl, rfl⟩
      go_wp2_with fail
      refine ((HL _).out).mono ?_
      rintro e w' ⟨rfl, mm, rfl⟩
      go_wp2
      go_ret3
      exact ⟨by rw [HO.out]; rfl, (by repeat (first | exact Below.refl _ _ | refine bl_alloc ?_ _ | refine bl_drewN ?_ _ | refine bl_trans (by assumption) ?_ | refine bl_set ?_ (by first | omega | (simp; done) | (simp; omega)) _))⟩
    · have q1 : p * d < n := by omega
      have HO := Lib.hid (show OK = false by rw [hO, hM, hG]; simp; omega)
      subst hM hG
      clear hO q
      go_enter Try.func70, Try.ntmps70
      go_wp2
      go_ret3
      exact ⟨by rw [HO.out]; rfl, (by repeat (first | exact Below.refl _ _ | refine bl_alloc ?_ _ | refine bl_drewN ?_ _ | refine bl_trans (by assumption) ?_ | refine bl_set ?_ (by first | omega | (simp; done) | (simp; omega)) _))⟩
  · rw [if_neg g] at hM hG
    rw [show max s (-s) = s by omega] at HAB
    by_cases gz0 : s = 0
    · subst gz0
      have HO := Lib.hid (show OK = false by rw [hO, hG]; simp)
      subst hM hG
      clear hO
      go_enter Try.func70, Try.ntmps70
      go_wp2
      go_ret3
      exact ⟨by rw [HO.out]; rfl, (by repeat (first | exact Below.refl _ _ | refine bl_alloc ?_ _ | refine bl_drewN ?_ _ | refine bl_trans (by assumption) ?_ | refine bl_set ?_ (by first | omega | (simp; done) | (simp; omega)) _))⟩
    have gz : (s == 0) = false := by simp; omega
    obtain ⟨f3, f4⟩ := mul_bd2 (a := d) (b := s) (m := 200) (k := 50) (by omega) (by omega) (by omega) (by omega)
    have f5 := Int.mul_le_mul (a := 1) (b := 1) (c := d) (d := s) (by omega) (by omega) (by omega) (by omega)
    by_cases q : n - p * d < 0
    · have HO := Lib.hid (show OK = false by rw [hO, hM, hG]; simp; omega)
      subst hM hG
      clear hO
      go_enter Try.func70, Try.ntmps70
      go_wp2
      go_ret3
      exact ⟨by rw [HO.out]; rfl, (by repeat (first | exact Below.refl _ _ | refine bl_alloc ?_ _ | refine bl_drewN ?_ _ | refine bl_trans (by assumption) ?_ | refine bl_set ?_ (by first | omega | (simp; done) | (simp; omega)) _))⟩
    · have HO := Lib.hid (show OK = true by rw [hO, hM, hG]; simp; omega)
      have HL := fun W => Lib.hid (clLow_any M G (by omega) (by omega) (by omega) (by omega) W)
      rw [hM, hG] at HL
      subst hM hG
      clear hO
      go_enter Try.func70, Try.ntmps70
      go_wp2_with fail
      refine ((HAB _).out).mono ?_
      rintro e w' ⟨rfl, rfl⟩
      go_wp2_with fail
      refine ((HL _).out).mono ?_
      rintro e w' ⟨rfl, mm, rfl⟩
      go_wp2
      go_ret3
      exact ⟨by rw [HO.out]; rfl, (by repeat (first | exact Below.refl _ _ | refine bl_alloc ?_ _ | refine bl_drewN ?_ _ | refine bl_trans (by assumption) ?_ | refine bl_set ?_ (by first | omega | (simp; done) | (simp; omega)) _))⟩
theorem ln_one (n : Int) : ln n 1 = n := by simp [ln]
theorem ld_one (n : Int) : ld n 1 = 1 := by simp [ld]
theorem lnI_one (n : Int) : lnI n 1 = n := by unfold lnI; rw [ln_one, ln_one]; split <;> omega
theorem ldI_one (n : Int) : ldI n 1 = 1 := by unfold ldI; rw [ld_one, ld_one]; split <;> rfl
theorem at_mul (p s m l : Int) : p * l + s * l * m = (p + s * m) * l := by rw [Int.add_mul, Int.mul_right_comm]
theorem tells_foot (h p s l : Int) (hk : okWk l h p s = true) : Tells 64 h p s l (p) (s) (1) := fun W => foot_any h p s l W
theorem fits_foot {l h p s : Int} (hk : okWk l h p s = true) : Fits p s 0 (p) (s) (1) := by
  obtain ⟨⟨l1, l2⟩, ⟨h1, h2⟩, ⟨p1, p2⟩, s1, s2⟩ := okWk_true hk
  obtain ⟨f1, f2⟩ := mul_bd2 (a := p) (b := l) (m := 500) (k := 200) (by omega) (by omega) (by omega) (by omega)
  obtain ⟨f3, f4⟩ := mul_abs (a := s) (b := l) (m := 50) (k := 200) (by omega) (by omega) (by omega) (by omega)
  constructor <;> omega
theorem tells_tip (h p s l : Int) (hk : okWk l h p s = true) : Tells 66 h p s l (p * l) (s * l) (l - h) := fun W => tip_any h p s l hk W
theorem fits_tip {l h p s : Int} (hk : okWk l h p s = true) : Fits p s 0 (p * l) (s * l) (l - h) := by
  obtain ⟨⟨l1, l2⟩, ⟨h1, h2⟩, ⟨p1, p2⟩, s1, s2⟩ := okWk_true hk
  obtain ⟨f1, f2⟩ := mul_bd2 (a := p) (b := l) (m := 500) (k := 200) (by omega) (by omega) (by omega) (by omega)
  obtain ⟨f3, f4⟩ := mul_abs (a := s) (b := l) (m := 50) (k := 200) (by omega) (by omega) (by omega) (by omega)
  constructor <;> omega
theorem tells_length (h p s l : Int) (hk : okWk l h p s = true) : Tells 67 h p s l (p * h) (s * h) (l - h) := fun W => length_any h p s l hk W
theorem fits_length {l h p s : Int} (hk : okWk l h p s = true) : Fits p s 0 (p * h) (s * h) (l - h) := by
  obtain ⟨⟨l1, l2⟩, ⟨h1, h2⟩, ⟨p1, p2⟩, s1, s2⟩ := okWk_true hk
  obtain ⟨f1, f2⟩ := mul_bd2 (a := p) (b := h) (m := 500) (k := 200) (by omega) (by omega) (by omega) (by omega)
  obtain ⟨f3, f4⟩ := mul_abs (a := s) (b := h) (m := 50) (k := 200) (by omega) (by omega) (by omega) (by omega)
  constructor <;> omega
set_option maxHeartbeats 1000000 in
theorem impl_PlaceAt (l h p s m : Int) (w : World) :
    Calls Try.prog 24 #[.int .i64 l, .agg #[.int .i64 h, .int .i64 p, .int .i64 s], .int .i64 m] w fun e w' => e = .returned (.tuple #[.int .i64 (Z (okAt l h p s m) (p + s * m)), .bool (okAt l h p s m)]) ∧ Below w.heap.size w w' := by
  have hn : okAt l h p s m = true → 0 ≤ p + s * m := fun ho => by
    obtain ⟨hk, hm, h0, h1⟩ := okAt_true ho
    obtain ⟨⟨l1, l2⟩, ⟨g1, g2⟩, ⟨p1, p2⟩, s1, s2⟩ := okWk_true hk
    exact h0
  have HM := fun W => Lib.hid (measuredAt_any l h p s m 64 (fun _ _ => rfl) (p) (s) (1) (tells_foot h p s l) fits_foot hn W)
  rw [ln_one] at HM
  go_enter Try.func24, Try.ntmps24
  go_wp2_with fail
  refine ((HM _).out).mono ?_
  rintro e w1 ⟨rfl, hbw1⟩
  obtain ⟨hcw1, hfw1⟩ := bcell hbw1
  have hzw1 := bsize hbw1
  (try simp only [World.size_alloc, World.size_setCell] at hzw1)
  have kw1_0_0 : w1.cell? ⟨w.heap.size, 0, none⟩ = some (.int .i64 h) := by rw [hcw1 _ _ (by first | (simp; done) | omega | (simp; omega))]; first | assumption | (simp [go_sem]; done) | (simp [go_sem]; done) | (simp [go_sem, *]; done)
  have kw1_0_1 : w1.cell? ⟨w.heap.size, 1, none⟩ = some (.int .i64 p) := by rw [hcw1 _ _ (by first | (simp; done) | omega | (simp; omega))]; first | assumption | (simp [go_sem]; done) | (simp [go_sem]; done) | (simp [go_sem, *]; done)
  have kw1_0_2 : w1.cell? ⟨w.heap.size, 2, none⟩ = some (.int .i64 s) := by rw [hcw1 _ _ (by first | (simp; done) | omega | (simp; omega))]; first | assumption | (simp [go_sem]; done) | (simp [go_sem]; done) | (simp [go_sem, *]; done)
  have sw1_0 : w.heap.size < w1.heap.size := by first | omega | (simp at *; omega)
  have hBw1 : Below w.heap.size w w1 := (by repeat (first | exact Below.refl _ _ | refine bl_alloc ?_ _ | refine bl_drewN ?_ _ | refine bl_trans (by assumption) ?_ | refine bl_set ?_ (by first | omega | (simp; done) | (simp; omega)) _))
  have HBw1 := Lib.hid hBw1
  clear hBw1 hcw1 hfw1 hbw1
  go_wp2
  go_ret2
  exact ⟨rfl, (by repeat (first | exact HBw1.out | exact Below.refl _ _ | refine bl_alloc ?_ _ | refine bl_drewN ?_ _ | refine bl_trans (by assumption) ?_ | refine bl_set ?_ (by first | omega | (simp; done) | (simp; omega)) _))⟩
set_option maxHeartbeats 1000000 in
theorem impl_TipAt (l h p s m : Int) (w : World) :
    Calls Try.prog 26 #[.int .i64 l, .agg #[.int .i64 h, .int .i64 p, .int .i64 s], .int .i64 m] w fun e w' => e = .returned (.tuple #[.int .i64 (Z (okAt l h p s m) (ln ((p + s * m) * l) (l - h))), .int .i64 (Z (okAt l h p s m) (ld ((p + s * m) * l) (l - h))), .bool (okAt l h p s m)]) ∧ Below w.heap.size w w' := by
  have hn : okAt l h p s m = true → 0 ≤ p * l + s * l * m := fun ho => by
    obtain ⟨hk, hm, h0, h1⟩ := okAt_true ho
    obtain ⟨⟨l1, l2⟩, ⟨g1, g2⟩, ⟨p1, p2⟩, s1, s2⟩ := okWk_true hk
    rw [at_mul]; exact Int.mul_nonneg h0 (by omega)
  have HM := fun W => Lib.hid (measuredAt_any l h p s m 66 (fun _ _ => rfl) (p * l) (s * l) (l - h) (tells_tip h p s l) fits_tip hn W)
  rw [at_mul] at HM
  go_enter Try.func26, Try.ntmps26
  go_wp2_with fail
  refine ((HM _).out).mono ?_
  rintro e w1 ⟨rfl, hbw1⟩
  obtain ⟨hcw1, hfw1⟩ := bcell hbw1
  have hzw1 := bsize hbw1
  (try simp only [World.size_alloc, World.size_setCell] at hzw1)
  have kw1_0_0 : w1.cell? ⟨w.heap.size, 0, none⟩ = some (.int .i64 h) := by rw [hcw1 _ _ (by first | (simp; done) | omega | (simp; omega))]; first | assumption | (simp [go_sem]; done) | (simp [go_sem]; done) | (simp [go_sem, *]; done)
  have kw1_0_1 : w1.cell? ⟨w.heap.size, 1, none⟩ = some (.int .i64 p) := by rw [hcw1 _ _ (by first | (simp; done) | omega | (simp; omega))]; first | assumption | (simp [go_sem]; done) | (simp [go_sem]; done) | (simp [go_sem, *]; done)
  have kw1_0_2 : w1.cell? ⟨w.heap.size, 2, none⟩ = some (.int .i64 s) := by rw [hcw1 _ _ (by first | (simp; done) | omega | (simp; omega))]; first | assumption | (simp [go_sem]; done) | (simp [go_sem]; done) | (simp [go_sem, *]; done)
  have sw1_0 : w.heap.size < w1.heap.size := by first | omega | (simp at *; omega)
  have hBw1 : Below w.heap.size w w1 := (by repeat (first | exact Below.refl _ _ | refine bl_alloc ?_ _ | refine bl_drewN ?_ _ | refine bl_trans (by assumption) ?_ | refine bl_set ?_ (by first | omega | (simp; done) | (simp; omega)) _))
  have HBw1 := Lib.hid hBw1
  clear hBw1 hcw1 hfw1 hbw1
  go_wp2
  go_ret3
  exact ⟨rfl, (by repeat (first | exact HBw1.out | exact Below.refl _ _ | refine bl_alloc ?_ _ | refine bl_drewN ?_ _ | refine bl_trans (by assumption) ?_ | refine bl_set ?_ (by first | omega | (simp; done) | (simp; omega)) _))⟩
set_option maxHeartbeats 1000000 in
theorem spec_TipAt (l h p s m : Int) (w : World) :
    Calls Try.prog 25 #[.int .i64 l, .agg #[.int .i64 h, .int .i64 p, .int .i64 s], .int .i64 m] w fun e w' => e = .returned (.tuple #[.int .i64 (Z (okAt l h p s m) (ln ((p + s * m) * l) (l - h))), .int .i64 (Z (okAt l h p s m) (ld ((p + s * m) * l) (l - h))), .bool (okAt l h p s m)]) ∧ Below w.heap.size w w' := by
  have HM := fun W => Lib.hid (wkPlace_any l h p s m W)
  cases ho : okAt l h p s m
  · have HZ := Lib.hid (show Z false (p + s * m) = 0 from rfl)
    rw [ho, HZ.out] at HM
    go_enter Try.func25, Try.ntmps25
    go_wp2_with fail
    refine ((HM _).out).mono ?_
    rintro e w1 ⟨rfl, hbw1⟩
    obtain ⟨hcw1, hfw1⟩ := bcell hbw1
    have hzw1 := bsize hbw1
    (try simp only [World.size_alloc, World.size_setCell] at hzw1)
    have kw1_0_0 : w1.cell? ⟨w.heap.size, 0, none⟩ = some (.int .i64 h) := by rw [hcw1 _ _ (by first | (simp; done) | omega | (simp; omega))]; first | assumption | (simp [go_sem]; done) | (simp [go_sem]; done) | (simp [go_sem, *]; done)
    have kw1_0_1 : w1.cell? ⟨w.heap.size, 1, none⟩ = some (.int .i64 p) := by rw [hcw1 _ _ (by first | (simp; done) | omega | (simp; omega))]; first | assumption | (simp [go_sem]; done) | (simp [go_sem]; done) | (simp [go_sem, *]; done)
    have kw1_0_2 : w1.cell? ⟨w.heap.size, 2, none⟩ = some (.int .i64 s) := by rw [hcw1 _ _ (by first | (simp; done) | omega | (simp; omega))]; first | assumption | (simp [go_sem]; done) | (simp [go_sem]; done) | (simp [go_sem, *]; done)
    have sw1_0 : w.heap.size < w1.heap.size := by first | omega | (simp at *; omega)
    have hBw1 : Below w.heap.size w w1 := (by repeat (first | exact Below.refl _ _ | refine bl_alloc ?_ _ | refine bl_drewN ?_ _ | refine bl_trans (by assumption) ?_ | refine bl_set ?_ (by first | omega | (simp; done) | (simp; omega)) _))
    have HBw1 := Lib.hid hBw1
    clear hBw1 hcw1 hfw1 hbw1
    go_wp2
    go_ret3
    exact ⟨rfl, (by repeat (first | exact HBw1.out | exact Below.refl _ _ | refine bl_alloc ?_ _ | refine bl_drewN ?_ _ | refine bl_trans (by assumption) ?_ | refine bl_set ?_ (by first | omega | (simp; done) | (simp; omega)) _))⟩
  · have HZ := Lib.hid (show Z true (p + s * m) = p + s * m from rfl)
    rw [ho, HZ.out] at HM
    obtain ⟨hk, ⟨m1, m2⟩, h0, h1⟩ := okAt_true ho
    obtain ⟨⟨l1, l2⟩, ⟨g1, g2⟩, ⟨p1, p2⟩, s1, s2⟩ := okWk_true hk
    generalize p + s * m = x at *
    obtain ⟨f1, f2⟩ := mul_bd2 (a := x) (b := l) (m := 3500) (k := 200) (by omega) (by omega) (by omega) (by omega)
    have HL := fun W => Lib.hid (clLow_any (x * l) (l - h) (by omega) (by omega) (by omega) (by omega) W)
    clear ho hk
    go_enter Try.func25, Try.ntmps25
    go_wp2_with fail
    refine ((HM _).out).mono ?_
    rintro e w1 ⟨rfl, hbw1⟩
    obtain ⟨hcw1, hfw1⟩ := bcell hbw1
    have hzw1 := bsize hbw1
    (try simp only [World.size_alloc, World.size_setCell] at hzw1)
    have kw1_0_0 : w1.cell? ⟨w.heap.size, 0, none⟩ = some (.int .i64 h) := by rw [hcw1 _ _ (by first | (simp; done) | omega | (simp; omega))]; first | assumption | (simp [go_sem]; done) | (simp [go_sem]; done) | (simp [go_sem, *]; done)
    have kw1_0_1 : w1.cell? ⟨w.heap.size, 1, none⟩ = some (.int .i64 p) := by rw [hcw1 _ _ (by first | (simp; done) | omega | (simp; omega))]; first | assumption | (simp [go_sem]; done) | (simp [go_sem]; done) | (simp [go_sem, *]; done)
    have kw1_0_2 : w1.cell? ⟨w.heap.size, 2, none⟩ = some (.int .i64 s) := by rw [hcw1 _ _ (by first | (simp; done) | omega | (simp; omega))]; first | assumption | (simp [go_sem]; done) | (simp [go_sem]; done) | (simp [go_sem, *]; done)
    have sw1_0 : w.heap.size < w1.heap.size := by first | omega | (simp at *; omega)
    have hBw1 : Below w.heap.size w w1 := (by repeat (first | exact Below.refl _ _ | refine bl_alloc ?_ _ | refine bl_drewN ?_ _ | refine bl_trans (by assumption) ?_ | refine bl_set ?_ (by first | omega | (simp; done) | (simp; omega)) _))
    have HBw1 := Lib.hid hBw1
    clear hBw1 hcw1 hfw1 hbw1
    go_wp2_with fail
    refine ((HL _).out).mono ?_
    rintro e w' ⟨rfl, nn, rfl⟩
    go_wp2
    go_ret3
    exact ⟨rfl, (by repeat (first | exact HBw1.out | exact Below.refl _ _ | refine bl_alloc ?_ _ | refine bl_drewN ?_ _ | refine bl_trans (by assumption) ?_ | refine bl_set ?_ (by first | omega | (simp; done) | (simp; omega)) _))⟩
set_option maxHeartbeats 1000000 in
theorem impl_ShadowAt (l h p s m : Int) (w : World) :
    Calls Try.prog 28 #[.int .i64 l, .agg #[.int .i64 h, .int .i64 p, .int .i64 s], .int .i64 m] w fun e w' => e = .returned (.tuple #[.int .i64 (Z (okAt l h p s m) (ln ((p + s * m) * h) (l - h))), .int .i64 (Z (okAt l h p s m) (ld ((p + s * m) * h) (l - h))), .bool (okAt l h p s m)]) ∧ Below w.heap.size w w' := by
  have hn : okAt l h p s m = true → 0 ≤ p * h + s * h * m := fun ho => by
    obtain ⟨hk, hm, h0, h1⟩ := okAt_true ho
    obtain ⟨⟨l1, l2⟩, ⟨g1, g2⟩, ⟨p1, p2⟩, s1, s2⟩ := okWk_true hk
    rw [at_mul]; exact Int.mul_nonneg h0 (by omega)
  have HM := fun W => Lib.hid (measuredAt_any l h p s m 67 (fun _ _ => rfl) (p * h) (s * h) (l - h) (tells_length h p s l) fits_length hn W)
  rw [at_mul] at HM
  go_enter Try.func28, Try.ntmps28
  go_wp2_with fail
  refine ((HM _).out).mono ?_
  rintro e w1 ⟨rfl, hbw1⟩
  obtain ⟨hcw1, hfw1⟩ := bcell hbw1
  have hzw1 := bsize hbw1
  (try simp only [World.size_alloc, World.size_setCell] at hzw1)
  have kw1_0_0 : w1.cell? ⟨w.heap.size, 0, none⟩ = some (.int .i64 h) := by rw [hcw1 _ _ (by first | (simp; done) | omega | (simp; omega))]; first | assumption | (simp [go_sem]; done) | (simp [go_sem]; done) | (simp [go_sem, *]; done)
  have kw1_0_1 : w1.cell? ⟨w.heap.size, 1, none⟩ = some (.int .i64 p) := by rw [hcw1 _ _ (by first | (simp; done) | omega | (simp; omega))]; first | assumption | (simp [go_sem]; done) | (simp [go_sem]; done) | (simp [go_sem, *]; done)
  have kw1_0_2 : w1.cell? ⟨w.heap.size, 2, none⟩ = some (.int .i64 s) := by rw [hcw1 _ _ (by first | (simp; done) | omega | (simp; omega))]; first | assumption | (simp [go_sem]; done) | (simp [go_sem]; done) | (simp [go_sem, *]; done)
  have sw1_0 : w.heap.size < w1.heap.size := by first | omega | (simp at *; omega)
  have hBw1 : Below w.heap.size w w1 := (by repeat (first | exact Below.refl _ _ | refine bl_alloc ?_ _ | refine bl_drewN ?_ _ | refine bl_trans (by assumption) ?_ | refine bl_set ?_ (by first | omega | (simp; done) | (simp; omega)) _))
  have HBw1 := Lib.hid hBw1
  clear hBw1 hcw1 hfw1 hbw1
  go_wp2
  go_ret3
  exact ⟨rfl, (by repeat (first | exact HBw1.out | exact Below.refl _ _ | refine bl_alloc ?_ _ | refine bl_drewN ?_ _ | refine bl_trans (by assumption) ?_ | refine bl_set ?_ (by first | omega | (simp; done) | (simp; omega)) _))⟩
set_option maxHeartbeats 1000000 in
theorem spec_ShadowAt (l h p s m : Int) (w : World) :
    Calls Try.prog 27 #[.int .i64 l, .agg #[.int .i64 h, .int .i64 p, .int .i64 s], .int .i64 m] w fun e w' => e = .returned (.tuple #[.int .i64 (Z (okAt l h p s m) (ln ((p + s * m) * h) (l - h))), .int .i64 (Z (okAt l h p s m) (ld ((p + s * m) * h) (l - h))), .bool (okAt l h p s m)]) ∧ Below w.heap.size w w' := by
  have HM := fun W => Lib.hid (wkPlace_any l h p s m W)
  cases ho : okAt l h p s m
  · have HZ := Lib.hid (show Z false (p + s * m) = 0 from rfl)
    rw [ho, HZ.out] at HM
    go_enter Try.func27, Try.ntmps27
    go_wp2_with fail
    refine ((HM _).out).mono ?_
    rintro e w1 ⟨rfl, hbw1⟩
    obtain ⟨hcw1, hfw1⟩ := bcell hbw1
    have hzw1 := bsize hbw1
    (try simp only [World.size_alloc, World.size_setCell] at hzw1)
    have kw1_0_0 : w1.cell? ⟨w.heap.size, 0, none⟩ = some (.int .i64 h) := by rw [hcw1 _ _ (by first | (simp; done) | omega | (simp; omega))]; first | assumption | (simp [go_sem]; done) | (simp [go_sem]; done) | (simp [go_sem, *]; done)
    have kw1_0_1 : w1.cell? ⟨w.heap.size, 1, none⟩ = some (.int .i64 p) := by rw [hcw1 _ _ (by first | (simp; done) | omega | (simp; omega))]; first | assumption | (simp [go_sem]; done) | (simp [go_sem]; done) | (simp [go_sem, *]; done)
    have kw1_0_2 : w1.cell? ⟨w.heap.size, 2, none⟩ = some (.int .i64 s) := by rw [hcw1 _ _ (by first | (simp; done) | omega | (simp; omega))]; first | assumption | (simp [go_sem]; done) | (simp [go_sem]; done) | (simp [go_sem, *]; done)
    have sw1_0 : w.heap.size < w1.heap.size := by first | omega | (simp at *; omega)
    have hBw1 : Below w.heap.size w w1 := (by repeat (first | exact Below.refl _ _ | refine bl_alloc ?_ _ | refine bl_drewN ?_ _ | refine bl_trans (by assumption) ?_ | refine bl_set ?_ (by first | omega | (simp; done) | (simp; omega)) _))
    have HBw1 := Lib.hid hBw1
    clear hBw1 hcw1 hfw1 hbw1
    go_wp2
    go_ret3
    exact ⟨rfl, (by repeat (first | exact HBw1.out | exact Below.refl _ _ | refine bl_alloc ?_ _ | refine bl_drewN ?_ _ | refine bl_trans (by assumption) ?_ | refine bl_set ?_ (by first | omega | (simp; done) | (simp; omega)) _))⟩
  · have HZ := Lib.hid (show Z true (p + s * m) = p + s * m from rfl)
    rw [ho, HZ.out] at HM
    obtain ⟨hk, ⟨m1, m2⟩, h0, h1⟩ := okAt_true ho
    obtain ⟨⟨l1, l2⟩, ⟨g1, g2⟩, ⟨p1, p2⟩, s1, s2⟩ := okWk_true hk
    generalize p + s * m = x at *
    obtain ⟨f1, f2⟩ := mul_bd2 (a := x) (b := h) (m := 3500) (k := 200) (by omega) (by omega) (by omega) (by omega)
    have HL := fun W => Lib.hid (clLow_any (x * h) (l - h) (by omega) (by omega) (by omega) (by omega) W)
    clear ho hk
    go_enter Try.func27, Try.ntmps27
    go_wp2_with fail
    refine ((HM _).out).mono ?_
    rintro e w1 ⟨rfl, hbw1⟩
    obtain ⟨hcw1, hfw1⟩ := bcell hbw1
    have hzw1 := bsize hbw1
    (try simp only [World.size_alloc, World.size_setCell] at hzw1)
    have kw1_0_0 : w1.cell? ⟨w.heap.size, 0, none⟩ = some (.int .i64 h) := by rw [hcw1 _ _ (by first | (simp; done) | omega | (simp; omega))]; first | assumption | (simp [go_sem]; done) | (simp [go_sem]; done) | (simp [go_sem, *]; done)
    have kw1_0_1 : w1.cell? ⟨w.heap.size, 1, none⟩ = some (.int .i64 p) := by rw [hcw1 _ _ (by first | (simp; done) | omega | (simp; omega))]; first | assumption | (simp [go_sem]; done) | (simp [go_sem]; done) | (simp [go_sem, *]; done)
    have kw1_0_2 : w1.cell? ⟨w.heap.size, 2, none⟩ = some (.int .i64 s) := by rw [hcw1 _ _ (by first | (simp; done) | omega | (simp; omega))]; first | assumption | (simp [go_sem]; done) | (simp [go_sem]; done) | (simp [go_sem, *]; done)
    have sw1_0 : w.heap.size < w1.heap.size := by first | omega | (simp at *; omega)
    have hBw1 : Below w.heap.size w w1 := (by repeat (first | exact Below.refl _ _ | refine bl_alloc ?_ _ | refine bl_drewN ?_ _ | refine bl_trans (by assumption) ?_ | refine bl_set ?_ (by first | omega | (simp; done) | (simp; omega)) _))
    have HBw1 := Lib.hid hBw1
    clear hBw1 hcw1 hfw1 hbw1
    go_wp2_with fail
    refine ((HL _).out).mono ?_
    rintro e w' ⟨rfl, nn, rfl⟩
    go_wp2
    go_ret3
    exact ⟨rfl, (by repeat (first | exact HBw1.out | exact Below.refl _ _ | refine bl_alloc ?_ _ | refine bl_drewN ?_ _ | refine bl_trans (by assumption) ?_ | refine bl_set ?_ (by first | omega | (simp; done) | (simp; omega)) _))⟩
set_option maxHeartbeats 1000000 in
theorem spec_PlaceAt (l h p s m : Int) (w : World) :
    Calls Try.prog 23 #[.int .i64 l, .agg #[.int .i64 h, .int .i64 p, .int .i64 s], .int .i64 m] w fun e w' => e = .returned (.tuple #[.int .i64 (Z (okAt l h p s m) (p + s * m)), .bool (okAt l h p s m)]) ∧ Below w.heap.size w w' := by
  have HM := fun W => Lib.hid (wkPlace_any l h p s m W)
  go_enter Try.func23, Try.ntmps23
  go_wp2_with fail
  refine ((HM _).out).mono ?_
  rintro e w1 ⟨rfl, hbw1⟩
  obtain ⟨hcw1, hfw1⟩ := bcell hbw1
  have hzw1 := bsize hbw1
  (try simp only [World.size_alloc, World.size_setCell] at hzw1)
  have kw1_0_0 : w1.cell? ⟨w.heap.size, 0, none⟩ = some (.int .i64 h) := by rw [hcw1 _ _ (by first | (simp; done) | omega | (simp; omega))]; first | assumption | (simp [go_sem]; done) | (simp [go_sem]; done) | (simp [go_sem, *]; done)
  have kw1_0_1 : w1.cell? ⟨w.heap.size, 1, none⟩ = some (.int .i64 p) := by rw [hcw1 _ _ (by first | (simp; done) | omega | (simp; omega))]; first | assumption | (simp [go_sem]; done) | (simp [go_sem]; done) | (simp [go_sem, *]; done)
  have kw1_0_2 : w1.cell? ⟨w.heap.size, 2, none⟩ = some (.int .i64 s) := by rw [hcw1 _ _ (by first | (simp; done) | omega | (simp; omega))]; first | assumption | (simp [go_sem]; done) | (simp [go_sem]; done) | (simp [go_sem, *]; done)
  have sw1_0 : w.heap.size < w1.heap.size := by first | omega | (simp at *; omega)
  have hBw1 : Below w.heap.size w w1 := (by repeat (first | exact Below.refl _ _ | refine bl_alloc ?_ _ | refine bl_drewN ?_ _ | refine bl_trans (by assumption) ?_ | refine bl_set ?_ (by first | omega | (simp; done) | (simp; omega)) _))
  have HBw1 := Lib.hid hBw1
  clear hBw1 hcw1 hfw1 hbw1
  go_wp2
  go_ret2
  exact ⟨rfl, (by repeat (first | exact HBw1.out | exact Below.refl _ _ | refine bl_alloc ?_ _ | refine bl_drewN ?_ _ | refine bl_trans (by assumption) ?_ | refine bl_set ?_ (by first | omega | (simp; done) | (simp; omega)) _))⟩
set_option maxHeartbeats 1000000 in
theorem impl_TipSpeed (l h p s : Int) (w : World) :
    Calls Try.prog 30 #[.int .i64 l, .agg #[.int .i64 h, .int .i64 p, .int .i64 s]] w fun e w' => e = .returned (.tuple #[.int .i64 (Z (okWk l h p s) (lnI (s * l) (l - h))), .int .i64 (Z (okWk l h p s) (ldI (s * l) (l - h))), .bool (okWk l h p s)]) ∧ Below w.heap.size w w' := by
  have HM := fun W => Lib.hid (changeOf_any l h p s 66 (fun _ _ => rfl) (p * l) (s * l) (l - h) (tells_tip h p s l) fits_tip W)
  go_enter Try.func30, Try.ntmps30
  go_wp2_with fail
  refine ((HM _).out).mono ?_
  rintro e w1 ⟨rfl, hbw1⟩
  obtain ⟨hcw1, hfw1⟩ := bcell hbw1
  have hzw1 := bsize hbw1
  (try simp only [World.size_alloc, World.size_setCell] at hzw1)
  have kw1_0_0 : w1.cell? ⟨w.heap.size, 0, none⟩ = some (.int .i64 h) := by rw [hcw1 _ _ (by first | (simp; done) | omega | (simp; omega))]; first | assumption | (simp [go_sem]; done) | (simp [go_sem]; done) | (simp [go_sem, *]; done)
  have kw1_0_1 : w1.cell? ⟨w.heap.size, 1, none⟩ = some (.int .i64 p) := by rw [hcw1 _ _ (by first | (simp; done) | omega | (simp; omega))]; first | assumption | (simp [go_sem]; done) | (simp [go_sem]; done) | (simp [go_sem, *]; done)
  have kw1_0_2 : w1.cell? ⟨w.heap.size, 2, none⟩ = some (.int .i64 s) := by rw [hcw1 _ _ (by first | (simp; done) | omega | (simp; omega))]; first | assumption | (simp [go_sem]; done) | (simp [go_sem]; done) | (simp [go_sem, *]; done)
  have sw1_0 : w.heap.size < w1.heap.size := by first | omega | (simp at *; omega)
  have hBw1 : Below w.heap.size w w1 := (by repeat (first | exact Below.refl _ _ | refine bl_alloc ?_ _ | refine bl_drewN ?_ _ | refine bl_trans (by assumption) ?_ | refine bl_set ?_ (by first | omega | (simp; done) | (simp; omega)) _))
  have HBw1 := Lib.hid hBw1
  clear hBw1 hcw1 hfw1 hbw1
  go_wp2
  go_ret3
  exact ⟨rfl, (by repeat (first | exact HBw1.out | exact Below.refl _ _ | refine bl_alloc ?_ _ | refine bl_drewN ?_ _ | refine bl_trans (by assumption) ?_ | refine bl_set ?_ (by first | omega | (simp; done) | (simp; omega)) _))⟩
set_option maxHeartbeats 1000000 in
theorem spec_TipSpeed (l h p s : Int) (w : World) :
    Calls Try.prog 29 #[.int .i64 l, .agg #[.int .i64 h, .int .i64 p, .int .i64 s]] w fun e w' => e = .returned (.tuple #[.int .i64 (Z (okWk l h p s) (lnI (s * l) (l - h))), .int .i64 (Z (okWk l h p s) (ldI (s * l) (l - h))), .bool (okWk l h p s)]) ∧ Below w.heap.size w w' := by
  cases h1 : okWk l h p s
  · go_enter Try.func29, Try.ntmps29
    go_wp2_with fail
    refine (spec_wkGood _ _ _ _ _).mono ?_
    rintro e w1 ⟨rfl, hbw1⟩
    obtain ⟨hcw1, hfw1⟩ := bcell hbw1
    have hzw1 := bsize hbw1
    (try simp only [World.size_alloc, World.size_setCell] at hzw1)
    have kw1_0_0 : w1.cell? ⟨w.heap.size, 0, none⟩ = some (.int .i64 h) := by rw [hcw1 _ _ (by first | (simp; done) | omega | (simp; omega))]; first | assumption | (simp [go_sem]; done) | (simp [go_sem]; done) | (simp [go_sem, *]; done)
    have kw1_0_1 : w1.cell? ⟨w.heap.size, 1, none⟩ = some (.int .i64 p) := by rw [hcw1 _ _ (by first | (simp; done) | omega | (simp; omega))]; first | assumption | (simp [go_sem]; done) | (simp [go_sem]; done) | (simp [go_sem, *]; done)
    have kw1_0_2 : w1.cell? ⟨w.heap.size, 2, none⟩ = some (.int .i64 s) := by rw [hcw1 _ _ (by first | (simp; done) | omega | (simp; omega))]; first | assumption | (simp [go_sem]; done) | (simp [go_sem]; done) | (simp [go_sem, *]; done)
    have sw1_0 : w.heap.size < w1.heap.size := by first | omega | (simp at *; omega)
    have hBw1 : Below w.heap.size w w1 := (by repeat (first | exact Below.refl _ _ | refine bl_alloc ?_ _ | refine bl_drewN ?_ _ | refine bl_trans (by assumption) ?_ | refine bl_set ?_ (by first | omega | (simp; done) | (simp; omega)) _))
    have HBw1 := Lib.hid hBw1
    clear hBw1 hcw1 hfw1 hbw1
    rw [h1]
    go_wp2
    go_ret3
    exact ⟨by simp [Z], (by repeat (first | exact HBw1.out | exact Below.refl _ _ | refine bl_alloc ?_ _ | refine bl_drewN ?_ _ | refine bl_trans (by assumption) ?_ | refine bl_set ?_ (by first | omega | (simp; done) | (simp; omega)) _))⟩
  · obtain ⟨⟨l1, l2⟩, ⟨g1, g2⟩, ⟨p1, p2⟩, s1, s2⟩ := okWk_true h1
    obtain ⟨f3, f4⟩ := mul_abs (a := s) (b := l) (m := 50) (k := 200) (by omega) (by omega) (by omega) (by omega)
    have HL := fun W => Lib.hid (wkSigned_any (s * l) (l - h) (by omega) (by omega) (by omega) (by omega) W)
    go_enter Try.func29, Try.ntmps29
    go_wp2_with fail
    refine (spec_wkGood _ _ _ _ _).mono ?_
    rintro e w1 ⟨rfl, hbw1⟩
    obtain ⟨hcw1, hfw1⟩ := bcell hbw1
    have hzw1 := bsize hbw1
    (try simp only [World.size_alloc, World.size_setCell] at hzw1)
    have kw1_0_0 : w1.cell? ⟨w.heap.size, 0, none⟩ = some (.int .i64 h) := by rw [hcw1 _ _ (by first | (simp; done) | omega | (simp; omega))]; first | assumption | (simp [go_sem]; done) | (simp [go_sem]; done) | (simp [go_sem, *]; done)
    have kw1_0_1 : w1.cell? ⟨w.heap.size, 1, none⟩ = some (.int .i64 p) := by rw [hcw1 _ _ (by first | (simp; done) | omega | (simp; omega))]; first | assumption | (simp [go_sem]; done) | (simp [go_sem]; done) | (simp [go_sem, *]; done)
    have kw1_0_2 : w1.cell? ⟨w.heap.size, 2, none⟩ = some (.int .i64 s) := by rw [hcw1 _ _ (by first | (simp; done) | omega | (simp; omega))]; first | assumption | (simp [go_sem]; done) | (simp [go_sem]; done) | (simp [go_sem, *]; done)
    have sw1_0 : w.heap.size < w1.heap.size := by first | omega | (simp at *; omega)
    have hBw1 : Below w.heap.size w w1 := (by repeat (first | exact Below.refl _ _ | refine bl_alloc ?_ _ | refine bl_drewN ?_ _ | refine bl_trans (by assumption) ?_ | refine bl_set ?_ (by first | omega | (simp; done) | (simp; omega)) _))
    have HBw1 := Lib.hid hBw1
    clear hBw1 hcw1 hfw1 hbw1
    rw [h1]
    go_wp2_with fail
    refine ((HL _).out).mono ?_
    rintro e w' ⟨rfl, nn, rfl⟩
    go_wp2
    go_ret3
    exact ⟨rfl, (by repeat (first | exact HBw1.out | exact Below.refl _ _ | refine bl_alloc ?_ _ | refine bl_drewN ?_ _ | refine bl_trans (by assumption) ?_ | refine bl_set ?_ (by first | omega | (simp; done) | (simp; omega)) _))⟩
set_option maxHeartbeats 1000000 in
theorem impl_GrowSpeed (l h p s : Int) (w : World) :
    Calls Try.prog 32 #[.int .i64 l, .agg #[.int .i64 h, .int .i64 p, .int .i64 s]] w fun e w' => e = .returned (.tuple #[.int .i64 (Z (okWk l h p s) (lnI (s * h) (l - h))), .int .i64 (Z (okWk l h p s) (ldI (s * h) (l - h))), .bool (okWk l h p s)]) ∧ Below w.heap.size w w' := by
  have HM := fun W => Lib.hid (changeOf_any l h p s 67 (fun _ _ => rfl) (p * h) (s * h) (l - h) (tells_length h p s l) fits_length W)
  go_enter Try.func32, Try.ntmps32
  go_wp2_with fail
  refine ((HM _).out).mono ?_
  rintro e w1 ⟨rfl, hbw1⟩
  obtain ⟨hcw1, hfw1⟩ := bcell hbw1
  have hzw1 := bsize hbw1
  (try simp only [World.size_alloc, World.size_setCell] at hzw1)
  have kw1_0_0 : w1.cell? ⟨w.heap.size, 0, none⟩ = some (.int .i64 h) := by rw [hcw1 _ _ (by first | (simp; done) | omega | (simp; omega))]; first | assumption | (simp [go_sem]; done) | (simp [go_sem]; done) | (simp [go_sem, *]; done)
  have kw1_0_1 : w1.cell? ⟨w.heap.size, 1, none⟩ = some (.int .i64 p) := by rw [hcw1 _ _ (by first | (simp; done) | omega | (simp; omega))]; first | assumption | (simp [go_sem]; done) | (simp [go_sem]; done) | (simp [go_sem, *]; done)
  have kw1_0_2 : w1.cell? ⟨w.heap.size, 2, none⟩ = some (.int .i64 s) := by rw [hcw1 _ _ (by first | (simp; done) | omega | (simp; omega))]; first | assumption | (simp [go_sem]; done) | (simp [go_sem]; done) | (simp [go_sem, *]; done)
  have sw1_0 : w.heap.size < w1.heap.size := by first | omega | (simp at *; omega)
  have hBw1 : Below w.heap.size w w1 := (by repeat (first | exact Below.refl _ _ | refine bl_alloc ?_ _ | refine bl_drewN ?_ _ | refine bl_trans (by assumption) ?_ | refine bl_set ?_ (by first | omega | (simp; done) | (simp; omega)) _))
  have HBw1 := Lib.hid hBw1
  clear hBw1 hcw1 hfw1 hbw1
  go_wp2
  go_ret3
  exact ⟨rfl, (by repeat (first | exact HBw1.out | exact Below.refl _ _ | refine bl_alloc ?_ _ | refine bl_drewN ?_ _ | refine bl_trans (by assumption) ?_ | refine bl_set ?_ (by first | omega | (simp; done) | (simp; omega)) _))⟩
set_option maxHeartbeats 1000000 in
theorem spec_GrowSpeed (l h p s : Int) (w : World) :
    Calls Try.prog 31 #[.int .i64 l, .agg #[.int .i64 h, .int .i64 p, .int .i64 s]] w fun e w' => e = .returned (.tuple #[.int .i64 (Z (okWk l h p s) (lnI (s * h) (l - h))), .int .i64 (Z (okWk l h p s) (ldI (s * h) (l - h))), .bool (okWk l h p s)]) ∧ Below w.heap.size w w' := by
  cases h1 : okWk l h p s
  · go_enter Try.func31, Try.ntmps31
    go_wp2_with fail
    refine (spec_wkGood _ _ _ _ _).mono ?_
    rintro e w1 ⟨rfl, hbw1⟩
    obtain ⟨hcw1, hfw1⟩ := bcell hbw1
    have hzw1 := bsize hbw1
    (try simp only [World.size_alloc, World.size_setCell] at hzw1)
    have kw1_0_0 : w1.cell? ⟨w.heap.size, 0, none⟩ = some (.int .i64 h) := by rw [hcw1 _ _ (by first | (simp; done) | omega | (simp; omega))]; first | assumption | (simp [go_sem]; done) | (simp [go_sem]; done) | (simp [go_sem, *]; done)
    have kw1_0_1 : w1.cell? ⟨w.heap.size, 1, none⟩ = some (.int .i64 p) := by rw [hcw1 _ _ (by first | (simp; done) | omega | (simp; omega))]; first | assumption | (simp [go_sem]; done) | (simp [go_sem]; done) | (simp [go_sem, *]; done)
    have kw1_0_2 : w1.cell? ⟨w.heap.size, 2, none⟩ = some (.int .i64 s) := by rw [hcw1 _ _ (by first | (simp; done) | omega | (simp; omega))]; first | assumption | (simp [go_sem]; done) | (simp [go_sem]; done) | (simp [go_sem, *]; done)
    have sw1_0 : w.heap.size < w1.heap.size := by first | omega | (simp at *; omega)
    have hBw1 : Below w.heap.size w w1 := (by repeat (first | exact Below.refl _ _ | refine bl_alloc ?_ _ | refine bl_drewN ?_ _ | refine bl_trans (by assumption) ?_ | refine bl_set ?_ (by first | omega | (simp; done) | (simp; omega)) _))
    have HBw1 := Lib.hid hBw1
    clear hBw1 hcw1 hfw1 hbw1
    rw [h1]
    go_wp2
    go_ret3
    exact ⟨by simp [Z], (by repeat (first | exact HBw1.out | exact Below.refl _ _ | refine bl_alloc ?_ _ | refine bl_drewN ?_ _ | refine bl_trans (by assumption) ?_ | refine bl_set ?_ (by first | omega | (simp; done) | (simp; omega)) _))⟩
  · obtain ⟨⟨l1, l2⟩, ⟨g1, g2⟩, ⟨p1, p2⟩, s1, s2⟩ := okWk_true h1
    obtain ⟨f3, f4⟩ := mul_abs (a := s) (b := h) (m := 50) (k := 200) (by omega) (by omega) (by omega) (by omega)
    have HL := fun W => Lib.hid (wkSigned_any (s * h) (l - h) (by omega) (by omega) (by omega) (by omega) W)
    go_enter Try.func31, Try.ntmps31
    go_wp2_with fail
    refine (spec_wkGood _ _ _ _ _).mono ?_
    rintro e w1 ⟨rfl, hbw1⟩
    obtain ⟨hcw1, hfw1⟩ := bcell hbw1
    have hzw1 := bsize hbw1
    (try simp only [World.size_alloc, World.size_setCell] at hzw1)
    have kw1_0_0 : w1.cell? ⟨w.heap.size, 0, none⟩ = some (.int .i64 h) := by rw [hcw1 _ _ (by first | (simp; done) | omega | (simp; omega))]; first | assumption | (simp [go_sem]; done) | (simp [go_sem]; done) | (simp [go_sem, *]; done)
    have kw1_0_1 : w1.cell? ⟨w.heap.size, 1, none⟩ = some (.int .i64 p) := by rw [hcw1 _ _ (by first | (simp; done) | omega | (simp; omega))]; first | assumption | (simp [go_sem]; done) | (simp [go_sem]; done) | (simp [go_sem, *]; done)
    have kw1_0_2 : w1.cell? ⟨w.heap.size, 2, none⟩ = some (.int .i64 s) := by rw [hcw1 _ _ (by first | (simp; done) | omega | (simp; omega))]; first | assumption | (simp [go_sem]; done) | (simp [go_sem]; done) | (simp [go_sem, *]; done)
    have sw1_0 : w.heap.size < w1.heap.size := by first | omega | (simp at *; omega)
    have hBw1 : Below w.heap.size w w1 := (by repeat (first | exact Below.refl _ _ | refine bl_alloc ?_ _ | refine bl_drewN ?_ _ | refine bl_trans (by assumption) ?_ | refine bl_set ?_ (by first | omega | (simp; done) | (simp; omega)) _))
    have HBw1 := Lib.hid hBw1
    clear hBw1 hcw1 hfw1 hbw1
    rw [h1]
    go_wp2_with fail
    refine ((HL _).out).mono ?_
    rintro e w' ⟨rfl, nn, rfl⟩
    go_wp2
    go_ret3
    exact ⟨rfl, (by repeat (first | exact HBw1.out | exact Below.refl _ _ | refine bl_alloc ?_ _ | refine bl_drewN ?_ _ | refine bl_trans (by assumption) ?_ | refine bl_set ?_ (by first | omega | (simp; done) | (simp; omega)) _))⟩
set_option maxHeartbeats 1000000 in
theorem impl_MinuteOfShadow (l h p s x : Int) (w : World) :
    Calls Try.prog 36 #[.int .i64 l, .agg #[.int .i64 h, .int .i64 p, .int .i64 s], .int .i64 x] w fun e w' => e = .returned (.tuple #[.int .i64 (Z (okMn l h p s x (x * (l - h) - p * h) (s * h)) (ln (eqM (x * (l - h) - p * h) (s * h)) (eqG (s * h)))), .int .i64 (Z (okMn l h p s x (x * (l - h) - p * h) (s * h)) (ld (eqM (x * (l - h) - p * h) (s * h)) (eqG (s * h)))), .bool (okMn l h p s x (x * (l - h) - p * h) (s * h))]) ∧ Below w.heap.size w w' := by
  have HM := fun W => Lib.hid (minuteOf_any l h p s x 67 (fun _ _ => rfl) (p * h) (s * h) (l - h) (tells_length h p s l) fits_length W)
  go_enter Try.func36, Try.ntmps36
  go_wp2_with fail
  refine ((HM _).out).mono ?_
  rintro e w1 ⟨rfl, hbw1⟩
  obtain ⟨hcw1, hfw1⟩ := bcell hbw1
  have hzw1 := bsize hbw1
  (try simp only [World.size_alloc, World.size_setCell] at hzw1)
  have kw1_0_0 : w1.cell? ⟨w.heap.size, 0, none⟩ = some (.int .i64 h) := by rw [hcw1 _ _ (by first | (simp; done) | omega | (simp; omega))]; first | assumption | (simp [go_sem]; done) | (simp [go_sem]; done) | (simp [go_sem, *]; done)
  have kw1_0_1 : w1.cell? ⟨w.heap.size, 1, none⟩ = some (.int .i64 p) := by rw [hcw1 _ _ (by first | (simp; done) | omega | (simp; omega))]; first | assumption | (simp [go_sem]; done) | (simp [go_sem]; done) | (simp [go_sem, *]; done)
  have kw1_0_2 : w1.cell? ⟨w.heap.size, 2, none⟩ = some (.int .i64 s) := by rw [hcw1 _ _ (by first | (simp; done) | omega | (simp; omega))]; first | assumption | (simp [go_sem]; done) | (simp [go_sem]; done) | (simp [go_sem, *]; done)
  have sw1_0 : w.heap.size < w1.heap.size := by first | omega | (simp at *; omega)
  have hBw1 : Below w.heap.size w w1 := (by repeat (first | exact Below.refl _ _ | refine bl_alloc ?_ _ | refine bl_drewN ?_ _ | refine bl_trans (by assumption) ?_ | refine bl_set ?_ (by first | omega | (simp; done) | (simp; omega)) _))
  have HBw1 := Lib.hid hBw1
  clear hBw1 hcw1 hfw1 hbw1
  go_wp2
  go_ret3
  exact ⟨rfl, (by repeat (first | exact HBw1.out | exact Below.refl _ _ | refine bl_alloc ?_ _ | refine bl_drewN ?_ _ | refine bl_trans (by assumption) ?_ | refine bl_set ?_ (by first | omega | (simp; done) | (simp; omega)) _))⟩
set_option maxHeartbeats 2000000 in
theorem spec_MinuteOfShadow (l h p s x : Int) (w : World) :
    Calls Try.prog 35 #[.int .i64 l, .agg #[.int .i64 h, .int .i64 p, .int .i64 s], .int .i64 x] w fun e w' => e = .returned (.tuple #[.int .i64 (Z (okMn l h p s x (x * (l - h) - p * h) (s * h)) (ln (eqM (x * (l - h) - p * h) (s * h)) (eqG (s * h)))), .int .i64 (Z (okMn l h p s x (x * (l - h) - p * h) (s * h)) (ld (eqM (x * (l - h) - p * h) (s * h)) (eqG (s * h)))), .bool (okMn l h p s x (x * (l - h) - p * h) (s * h))]) ∧ Below w.heap.size w w' := by
  have hA : okMn l h p s x (x * (l - h) - p * h) (s * h) = (okWk l h p s && (within x 0 500 && eqOk (x * (l - h) - p * h) (s * h))) := rfl
  cases h1 : okWk l h p s
  · have HO := Lib.hid (show okMn l h p s x (x * (l - h) - p * h) (s * h) = false by rw [hA, h1]; rfl)
    clear hA
    go_enter Try.func35, Try.ntmps35
    go_wp2_with fail
    refine (spec_wkGood _ _ _ _ _).mono ?_
    rintro e w1 ⟨rfl, hbw1⟩
    obtain ⟨hcw1, hfw1⟩ := bcell hbw1
    have hzw1 := bsize hbw1
    (try simp only [World.size_alloc, World.size_setCell] at hzw1)
    have kw1_0_0 : w1.cell? ⟨w.heap.size, 0, none⟩ = some (.int .i64 h) := by rw [hcw1 _ _ (by first | (simp; done) | omega | (simp; omega))]; first | assumption | (simp [go_sem]; done) | (simp [go_sem]; done) | (simp [go_sem, *]; done)
    have kw1_0_1 : w1.cell? ⟨w.heap.size, 1, none⟩ = some (.int .i64 p) := by rw [hcw1 _ _ (by first | (simp; done) | omega | (simp; omega))]; first | assumption | (simp [go_sem]; done) | (simp [go_sem]; done) | (simp [go_sem, *]; done)
    have kw1_0_2 : w1.cell? ⟨w.heap.size, 2, none⟩ = some (.int .i64 s) := by rw [hcw1 _ _ (by first | (simp; done) | omega | (simp; omega))]; first | assumption | (simp [go_sem]; done) | (simp [go_sem]; done) | (simp [go_sem, *]; done)
    have sw1_0 : w.heap.size < w1.heap.size := by first | omega | (simp at *; omega)
    have hBw1 : Below w.heap.size w w1 := (by repeat (first | exact Below.refl _ _ | refine bl_alloc ?_ _ | refine bl_drewN ?_ _ | refine bl_trans (by assumption) ?_ | refine bl_set ?_ (by first | omega | (simp; done) | (simp; omega)) _))
    have HBw1 := Lib.hid hBw1
    clear hBw1 hcw1 hfw1 hbw1
    rw [h1]
    go_wp2
    go_ret3
    exact ⟨by rw [HO.out]; rfl, (by repeat (first | exact HBw1.out | exact Below.refl _ _ | refine bl_alloc ?_ _ | refine bl_drewN ?_ _ | refine bl_trans (by assumption) ?_ | refine bl_set ?_ (by first | omega | (simp; done) | (simp; omega)) _))⟩
  cases h2 : within x 0 500
  · have HO := Lib.hid (show okMn l h p s x (x * (l - h) - p * h) (s * h) = false by rw [hA, h1, h2]; rfl)
    clear hA
    go_enter Try.func35, Try.ntmps35
    go_wp2_with fail
    refine (spec_wkGood _ _ _ _ _).mono ?_
    rintro e w1 ⟨rfl, hbw1⟩
    obtain ⟨hcw1, hfw1⟩ := bcell hbw1
    have hzw1 := bsize hbw1
    (try simp only [World.size_alloc, World.size_setCell] at hzw1)
    have kw1_0_0 : w1.cell? ⟨w.heap.size, 0, none⟩ = some (.int .i64 h) := by rw [hcw1 _ _ (by first | (simp; done) | omega | (simp; omega))]; first | assumption | (simp [go_sem]; done) | (simp [go_sem]; done) | (simp [go_sem, *]; done)
    have kw1_0_1 : w1.cell? ⟨w.heap.size, 1, none⟩ = some (.int .i64 p) := by rw [hcw1 _ _ (by first | (simp; done) | omega | (simp; omega))]; first | assumption | (simp [go_sem]; done) | (simp [go_sem]; done) | (simp [go_sem, *]; done)
    have kw1_0_2 : w1.cell? ⟨w.heap.size, 2, none⟩ = some (.int .i64 s) := by rw [hcw1 _ _ (by first | (simp; done) | omega | (simp; omega))]; first | assumption | (simp [go_sem]; done) | (simp [go_sem]; done) | (simp [go_sem, *]; done)
    have sw1_0 : w.heap.size < w1.heap.size := by first | omega | (simp at *; omega)
    have hBw1 : Below w.heap.size w w1 := (by repeat (first | exact Below.refl _ _ | refine bl_alloc ?_ _ | refine bl_drewN ?_ _ | refine bl_trans (by assumption) ?_ | refine bl_set ?_ (by first | omega | (simp; done) | (simp; omega)) _))
    have HBw1 := Lib.hid hBw1
    clear hBw1 hcw1 hfw1 hbw1
    rw [h1]
    go_wp2_with fail
    refine (l1In_any _ _ _ _).mono ?_
    rintro e w' ⟨rfl, rfl⟩
    rw [h2]
    go_wp2
    go_ret3
    exact ⟨by rw [HO.out]; rfl, (by repeat (first | exact HBw1.out | exact Below.refl _ _ | refine bl_alloc ?_ _ | refine bl_drewN ?_ _ | refine bl_trans (by assumption) ?_ | refine bl_set ?_ (by first | omega | (simp; done) | (simp; omega)) _))⟩
  · obtain ⟨⟨l1, l2⟩, ⟨g1, g2⟩, ⟨p1, p2⟩, s1, s2⟩ := okWk_true h1
    obtain ⟨x1, x2⟩ := within_true h2
    have HO := Lib.hid (show okMn l h p s x (x * (l - h) - p * h) (s * h) = eqOk (x * (l - h) - p * h) (s * h) by rw [hA, h1, h2]; simp)
    obtain ⟨f1, f2⟩ := mul_bd2 (a := x) (b := l - h) (m := 500) (k := 200) (by omega) (by omega) (by omega) (by omega)
    have HL := fun W => Lib.hid (wkWhen_any h p s (x * (l - h)) h p1 p2 s1 s2 f1 (by omega) (by omega) (by omega) W)
    clear hA
    generalize eqM (x * (l - h) - p * h) (s * h) = P at *
    generalize eqG (s * h) = Q at *
    generalize eqOk (x * (l - h) - p * h) (s * h) = R at *
    generalize okMn l h p s x (x * (l - h) - p * h) (s * h) = R2 at *
    go_enter Try.func35, Try.ntmps35
    go_wp2_with fail
    refine (spec_wkGood _ _ _ _ _).mono ?_
    rintro e w1 ⟨rfl, hbw1⟩
    obtain ⟨hcw1, hfw1⟩ := bcell hbw1
    have hzw1 := bsize hbw1
    (try simp only [World.size_alloc, World.size_setCell] at hzw1)
    have kw1_0_0 : w1.cell? ⟨w.heap.size, 0, none⟩ = some (.int .i64 h) := by rw [hcw1 _ _ (by first | (simp; done) | omega | (simp; omega))]; first | assumption | (simp [go_sem]; done) | (simp [go_sem]; done) | (simp [go_sem, *]; done)
    have kw1_0_1 : w1.cell? ⟨w.heap.size, 1, none⟩ = some (.int .i64 p) := by rw [hcw1 _ _ (by first | (simp; done) | omega | (simp; omega))]; first | assumption | (simp [go_sem]; done) | (simp [go_sem]; done) | (simp [go_sem, *]; done)
    have kw1_0_2 : w1.cell? ⟨w.heap.size, 2, none⟩ = some (.int .i64 s) := by rw [hcw1 _ _ (by first | (simp; done) | omega | (simp; omega))]; first | assumption | (simp [go_sem]; done) | (simp [go_sem]; done) | (simp [go_sem, *]; done)
    have sw1_0 : w.heap.size < w1.heap.size := by first | omega | (simp at *; omega)
    have hBw1 : Below w.heap.size w w1 := (by repeat (first | exact Below.refl _ _ | refine bl_alloc ?_ _ | refine bl_drewN ?_ _ | refine bl_trans (by assumption) ?_ | refine bl_set ?_ (by first | omega | (simp; done) | (simp; omega)) _))
    have HBw1 := Lib.hid hBw1
    clear hBw1 hcw1 hfw1 hbw1
    rw [h1]
    go_wp2_with fail
    refine (l1In_any _ _ _ _).mono ?_
    rintro e w' ⟨rfl, rfl⟩
    rw [h2]
    go_wp2_with fail
    refine ((HL _).out).mono ?_
    rintro e w2 ⟨rfl, hbw2⟩
    obtain ⟨hcw2, hfw2⟩ := bcell hbw2
    have hzw2 := bsize hbw2
    (try simp only [World.size_alloc, World.size_setCell] at hzw2)
    have hkw2 : Below w1.heap.size w1 w2 := (by repeat (first | exact Below.refl _ _ | refine bl_alloc ?_ _ | refine bl_drewN ?_ _ | refine bl_trans (by assumption) ?_ | refine bl_set ?_ (by first | omega | (simp; done) | (simp; omega)) _))
    have kw2_0_0 : w2.cell? ⟨w.heap.size, 0, none⟩ = some (.int .i64 h) := cell_after hkw2 sw1_0 kw1_0_0
    have kw2_0_1 : w2.cell? ⟨w.heap.size, 1, none⟩ = some (.int .i64 p) := cell_after hkw2 sw1_0 kw1_0_1
    have kw2_0_2 : w2.cell? ⟨w.heap.size, 2, none⟩ = some (.int .i64 s) := cell_after hkw2 sw1_0 kw1_0_2
    have sw2_0 : w.heap.size < w2.heap.size := size_after hkw2 sw1_0
    have hBw2 : Below w.heap.size w w2 := (by repeat (first | exact HBw1.out | exact Below.refl _ _ | refine bl_alloc ?_ _ | refine bl_drewN ?_ _ | refine bl_trans (by assumption) ?_ | refine bl_set ?_ (by first | omega | (simp; done) | (simp; omega)) _))
    have HBw2 := Lib.hid hBw2
    clear hBw2 hcw2 hfw2 hbw2 hkw2 kw1_0_0 kw1_0_1 kw1_0_2 sw1_0
    go_wp2
    go_ret3
    exact ⟨by rw [HO.out]; rfl, (by repeat (first | exact HBw2.out | exact Below.refl _ _ | refine bl_alloc ?_ _ | refine bl_drewN ?_ _ | refine bl_trans (by assumption) ?_ | refine bl_set ?_ (by first | omega | (simp; done) | (simp; omega)) _))⟩
set_option maxHeartbeats 1000000 in
theorem impl_MinuteOfTip (l h p s x : Int) (w : World) :
    Calls Try.prog 38 #[.int .i64 l, .agg #[.int .i64 h, .int .i64 p, .int .i64 s], .int .i64 x] w fun e w' => e = .returned (.tuple #[.int .i64 (Z (okMn l h p s x (x * (l - h) - p * l) (s * l)) (ln (eqM (x * (l - h) - p * l) (s * l)) (eqG (s * l)))), .int .i64 (Z (okMn l h p s x (x * (l - h) - p * l) (s * l)) (ld (eqM (x * (l - h) - p * l) (s * l)) (eqG (s * l)))), .bool (okMn l h p s x (x * (l - h) - p * l) (s * l))]) ∧ Below w.heap.size w w' := by
  have HM := fun W => Lib.hid (minuteOf_any l h p s x 66 (fun _ _ => rfl) (p * l) (s * l) (l - h) (tells_tip h p s l) fits_tip W)
  go_enter Try.func38, Try.ntmps38
  go_wp2_with fail
  refine ((HM _).out).mono ?_
  rintro e w1 ⟨rfl, hbw1⟩
  obtain ⟨hcw1, hfw1⟩ := bcell hbw1
  have hzw1 := bsize hbw1
  (try simp only [World.size_alloc, World.size_setCell] at hzw1)
  have kw1_0_0 : w1.cell? ⟨w.heap.size, 0, none⟩ = some (.int .i64 h) := by rw [hcw1 _ _ (by first | (simp; done) | omega | (simp; omega))]; first | assumption | (simp [go_sem]; done) | (simp [go_sem]; done) | (simp [go_sem, *]; done)
  have kw1_0_1 : w1.cell? ⟨w.heap.size, 1, none⟩ = some (.int .i64 p) := by rw [hcw1 _ _ (by first | (simp; done) | omega | (simp; omega))]; first | assumption | (simp [go_sem]; done) | (simp [go_sem]; done) | (simp [go_sem, *]; done)
  have kw1_0_2 : w1.cell? ⟨w.heap.size, 2, none⟩ = some (.int .i64 s) := by rw [hcw1 _ _ (by first | (simp; done) | omega | (simp; omega))]; first | assumption | (simp [go_sem]; done) | (simp [go_sem]; done) | (simp [go_sem, *]; done)
  have sw1_0 : w.heap.size < w1.heap.size := by first | omega | (simp at *; omega)
  have hBw1 : Below w.heap.size w w1 := (by repeat (first | exact Below.refl _ _ | refine bl_alloc ?_ _ | refine bl_drewN ?_ _ | refine bl_trans (by assumption) ?_ | refine bl_set ?_ (by first | omega | (simp; done) | (simp; omega)) _))
  have HBw1 := Lib.hid hBw1
  clear hBw1 hcw1 hfw1 hbw1
  go_wp2
  go_ret3
  exact ⟨rfl, (by repeat (first | exact HBw1.out | exact Below.refl _ _ | refine bl_alloc ?_ _ | refine bl_drewN ?_ _ | refine bl_trans (by assumption) ?_ | refine bl_set ?_ (by first | omega | (simp; done) | (simp; omega)) _))⟩
set_option maxHeartbeats 2000000 in
theorem spec_MinuteOfTip (l h p s x : Int) (w : World) :
    Calls Try.prog 37 #[.int .i64 l, .agg #[.int .i64 h, .int .i64 p, .int .i64 s], .int .i64 x] w fun e w' => e = .returned (.tuple #[.int .i64 (Z (okMn l h p s x (x * (l - h) - p * l) (s * l)) (ln (eqM (x * (l - h) - p * l) (s * l)) (eqG (s * l)))), .int .i64 (Z (okMn l h p s x (x * (l - h) - p * l) (s * l)) (ld (eqM (x * (l - h) - p * l) (s * l)) (eqG (s * l)))), .bool (okMn l h p s x (x * (l - h) - p * l) (s * l))]) ∧ Below w.heap.size w w' := by
  have hA : okMn l h p s x (x * (l - h) - p * l) (s * l) = (okWk l h p s && (within x 0 500 && eqOk (x * (l - h) - p * l) (s * l))) := rfl
  cases h1 : okWk l h p s
  · have HO := Lib.hid (show okMn l h p s x (x * (l - h) - p * l) (s * l) = false by rw [hA, h1]; rfl)
    clear hA
    go_enter Try.func37, Try.ntmps37
    go_wp2_with fail
    refine (spec_wkGood _ _ _ _ _).mono ?_
    rintro e w1 ⟨rfl, hbw1⟩
    obtain ⟨hcw1, hfw1⟩ := bcell hbw1
    have hzw1 := bsize hbw1
    (try simp only [World.size_alloc, World.size_setCell] at hzw1)
    have kw1_0_0 : w1.cell? ⟨w.heap.size, 0, none⟩ = some (.int .i64 h) := by rw [hcw1 _ _ (by first | (simp; done) | omega | (simp; omega))]; first | assumption | (simp [go_sem]; done) | (simp [go_sem]; done) | (simp [go_sem, *]; done)
    have kw1_0_1 : w1.cell? ⟨w.heap.size, 1, none⟩ = some (.int .i64 p) := by rw [hcw1 _ _ (by first | (simp; done) | omega | (simp; omega))]; first | assumption | (simp [go_sem]; done) | (simp [go_sem]; done) | (simp [go_sem, *]; done)
    have kw1_0_2 : w1.cell? ⟨w.heap.size, 2, none⟩ = some (.int .i64 s) := by rw [hcw1 _ _ (by first | (simp; done) | omega | (simp; omega))]; first | assumption | (simp [go_sem]; done) | (simp [go_sem]; done) | (simp [go_sem, *]; done)
    have sw1_0 : w.heap.size < w1.heap.size := by first | omega | (simp at *; omega)
    have hBw1 : Below w.heap.size w w1 := (by repeat (first | exact Below.refl _ _ | refine bl_alloc ?_ _ | refine bl_drewN ?_ _ | refine bl_trans (by assumption) ?_ | refine bl_set ?_ (by first | omega | (simp; done) | (simp; omega)) _))
    have HBw1 := Lib.hid hBw1
    clear hBw1 hcw1 hfw1 hbw1
    rw [h1]
    go_wp2
    go_ret3
    exact ⟨by rw [HO.out]; rfl, (by repeat (first | exact HBw1.out | exact Below.refl _ _ | refine bl_alloc ?_ _ | refine bl_drewN ?_ _ | refine bl_trans (by assumption) ?_ | refine bl_set ?_ (by first | omega | (simp; done) | (simp; omega)) _))⟩
  cases h2 : within x 0 500
  · have HO := Lib.hid (show okMn l h p s x (x * (l - h) - p * l) (s * l) = false by rw [hA, h1, h2]; rfl)
    clear hA
    go_enter Try.func37, Try.ntmps37
    go_wp2_with fail
    refine (spec_wkGood _ _ _ _ _).mono ?_
    rintro e w1 ⟨rfl, hbw1⟩
    obtain ⟨hcw1, hfw1⟩ := bcell hbw1
    have hzw1 := bsize hbw1
    (try simp only [World.size_alloc, World.size_setCell] at hzw1)
    have kw1_0_0 : w1.cell? ⟨w.heap.size, 0, none⟩ = some (.int .i64 h) := by rw [hcw1 _ _ (by first | (simp; done) | omega | (simp; omega))]; first | assumption | (simp [go_sem]; done) | (simp [go_sem]; done) | (simp [go_sem, *]; done)
    have kw1_0_1 : w1.cell? ⟨w.heap.size, 1, none⟩ = some (.int .i64 p) := by rw [hcw1 _ _ (by first | (simp; done) | omega | (simp; omega))]; first | assumption | (simp [go_sem]; done) | (simp [go_sem]; done) | (simp [go_sem, *]; done)
    have kw1_0_2 : w1.cell? ⟨w.heap.size, 2, none⟩ = some (.int .i64 s) := by rw [hcw1 _ _ (by first | (simp; done) | omega | (simp; omega))]; first | assumption | (simp [go_sem]; done) | (simp [go_sem]; done) | (simp [go_sem, *]; done)
    have sw1_0 : w.heap.size < w1.heap.size := by first | omega | (simp at *; omega)
    have hBw1 : Below w.heap.size w w1 := (by repeat (first | exact Below.refl _ _ | refine bl_alloc ?_ _ | refine bl_drewN ?_ _ | refine bl_trans (by assumption) ?_ | refine bl_set ?_ (by first | omega | (simp; done) | (simp; omega)) _))
    have HBw1 := Lib.hid hBw1
    clear hBw1 hcw1 hfw1 hbw1
    rw [h1]
    go_wp2_with fail
    refine (l1In_any _ _ _ _).mono ?_
    rintro e w' ⟨rfl, rfl⟩
    rw [h2]
    go_wp2
    go_ret3
    exact ⟨by rw [HO.out]; rfl, (by repeat (first | exact HBw1.out | exact Below.refl _ _ | refine bl_alloc ?_ _ | refine bl_drewN ?_ _ | refine bl_trans (by assumption) ?_ | refine bl_set ?_ (by first | omega | (simp; done) | (simp; omega)) _))⟩
  · obtain ⟨⟨l1, l2⟩, ⟨g1, g2⟩, ⟨p1, p2⟩, s1, s2⟩ := okWk_true h1
    obtain ⟨x1, x2⟩ := within_true h2
    have HO := Lib.hid (show okMn l h p s x (x * (l - h) - p * l) (s * l) = eqOk (x * (l - h) - p * l) (s * l) by rw [hA, h1, h2]; simp)
    obtain ⟨f1, f2⟩ := mul_bd2 (a := x) (b := l - h) (m := 500) (k := 200) (by omega) (by omega) (by omega) (by omega)
    have HL := fun W => Lib.hid (wkWhen_any h p s (x * (l - h)) l p1 p2 s1 s2 f1 (by omega) (by omega) (by omega) W)
    clear hA
    generalize eqM (x * (l - h) - p * l) (s * l) = P at *
    generalize eqG (s * l) = Q at *
    generalize eqOk (x * (l - h) - p * l) (s * l) = R at *
    generalize okMn l h p s x (x * (l - h) - p * l) (s * l) = R2 at *
    go_enter Try.func37, Try.ntmps37
    go_wp2_with fail
    refine (spec_wkGood _ _ _ _ _).mono ?_
    rintro e w1 ⟨rfl, hbw1⟩
    obtain ⟨hcw1, hfw1⟩ := bcell hbw1
    have hzw1 := bsize hbw1
    (try simp only [World.size_alloc, World.size_setCell] at hzw1)
    have kw1_0_0 : w1.cell? ⟨w.heap.size, 0, none⟩ = some (.int .i64 h) := by rw [hcw1 _ _ (by first | (simp; done) | omega | (simp; omega))]; first | assumption | (simp [go_sem]; done) | (simp [go_sem]; done) | (simp [go_sem, *]; done)
    have kw1_0_1 : w1.cell? ⟨w.heap.size, 1, none⟩ = some (.int .i64 p) := by rw [hcw1 _ _ (by first | (simp; done) | omega | (simp; omega))]; first | assumption | (simp [go_sem]; done) | (simp [go_sem]; done) | (simp [go_sem, *]; done)
    have kw1_0_2 : w1.cell? ⟨w.heap.size, 2, none⟩ = some (.int .i64 s) := by rw [hcw1 _ _ (by first | (simp; done) | omega | (simp; omega))]; first | assumption | (simp [go_sem]; done) | (simp [go_sem]; done) | (simp [go_sem, *]; done)
    have sw1_0 : w.heap.size < w1.heap.size := by first | omega | (simp at *; omega)
    have hBw1 : Below w.heap.size w w1 := (by repeat (first | exact Below.refl _ _ | refine bl_alloc ?_ _ | refine bl_drewN ?_ _ | refine bl_trans (by assumption) ?_ | refine bl_set ?_ (by first | omega | (simp; done) | (simp; omega)) _))
    have HBw1 := Lib.hid hBw1
    clear hBw1 hcw1 hfw1 hbw1
    rw [h1]
    go_wp2_with fail
    refine (l1In_any _ _ _ _).mono ?_
    rintro e w' ⟨rfl, rfl⟩
    rw [h2]
    go_wp2_with fail
    refine ((HL _).out).mono ?_
    rintro e w2 ⟨rfl, hbw2⟩
    obtain ⟨hcw2, hfw2⟩ := bcell hbw2
    have hzw2 := bsize hbw2
    (try simp only [World.size_alloc, World.size_setCell] at hzw2)
    have hkw2 : Below w1.heap.size w1 w2 := (by repeat (first | exact Below.refl _ _ | refine bl_alloc ?_ _ | refine bl_drewN ?_ _ | refine bl_trans (by assumption) ?_ | refine bl_set ?_ (by first | omega | (simp; done) | (simp; omega)) _))
    have kw2_0_0 : w2.cell? ⟨w.heap.size, 0, none⟩ = some (.int .i64 h) := cell_after hkw2 sw1_0 kw1_0_0
    have kw2_0_1 : w2.cell? ⟨w.heap.size, 1, none⟩ = some (.int .i64 p) := cell_after hkw2 sw1_0 kw1_0_1
    have kw2_0_2 : w2.cell? ⟨w.heap.size, 2, none⟩ = some (.int .i64 s) := cell_after hkw2 sw1_0 kw1_0_2
    have sw2_0 : w.heap.size < w2.heap.size := size_after hkw2 sw1_0
    have hBw2 : Below w.heap.size w w2 := (by repeat (first | exact HBw1.out | exact Below.refl _ _ | refine bl_alloc ?_ _ | refine bl_drewN ?_ _ | refine bl_trans (by assumption) ?_ | refine bl_set ?_ (by first | omega | (simp; done) | (simp; omega)) _))
    have HBw2 := Lib.hid hBw2
    clear hBw2 hcw2 hfw2 hbw2 hkw2 kw1_0_0 kw1_0_1 kw1_0_2 sw1_0
    go_wp2
    go_ret3
    exact ⟨by rw [HO.out]; rfl, (by repeat (first | exact HBw2.out | exact Below.refl _ _ | refine bl_alloc ?_ _ | refine bl_drewN ?_ _ | refine bl_trans (by assumption) ?_ | refine bl_set ?_ (by first | omega | (simp; done) | (simp; omega)) _))⟩
def okAL (l h p s : Int) : Bool := okWk l h p s && (p == 0 || eqOk (0 - p) s)
def alN (p s : Int) : Int := if p = 0 then 0 else ln (eqM (0 - p) s) (eqG s)
def alD (p s : Int) : Int := if p = 0 then 1 else ld (eqM (0 - p) s) (eqG s)
theorem eq_still {s : Int} (h : ¬ s = 0) : eqOk (0 * 1 - 0) s = true ∧ ln (eqM (0 * 1 - 0) s) (eqG s) = 0 ∧ ld (eqM (0 * 1 - 0) s) (eqG s) = 1 := by
  have hM : eqM (0 * 1 - 0) s = 0 := by unfold eqM; split <;> omega
  have hG : 1 ≤ eqG s := by unfold eqG; split <;> omega
  refine ⟨?_, ?_, ?_⟩
  · unfold eqOk; rw [hM]; simp; omega
  · rw [hM, ln_zero]
  · rw [hM, ld_zero hG]
set_option maxHeartbeats 2000000 in
theorem impl_MinuteAtLamp (l h p s : Int) (w : World) :
    Calls Try.prog 34 #[.int .i64 l, .agg #[.int .i64 h, .int .i64 p, .int .i64 s]] w fun e w' => e = .returned (.tuple #[.int .i64 (Z (okAL l h p s) (alN p s)), .int .i64 (Z (okAL l h p s) (alD p s)), .bool (okAL l h p s)]) ∧ Below w.heap.size w w' := by
  have HM := fun W => Lib.hid (minuteOf_any l h p s 0 64 (fun _ _ => rfl) (p) (s) (1) (tells_foot h p s l) fits_foot W)
  have hA : okAL l h p s = (okWk l h p s && (p == 0 || eqOk (0 - p) s)) := rfl
  have hB : okMn l h p s 0 (0 * 1 - p) s = (okWk l h p s && (within 0 0 500 && eqOk (0 * 1 - p) s)) := rfl
  cases h1 : okWk l h p s
  · have HO := Lib.hid (show okAL l h p s = false by rw [hA, h1]; rfl)
    rw [show okMn l h p s 0 (0 * 1 - p) s = false by rw [hB, h1]; rfl] at HM
    clear hA hB
    go_enter Try.func34, Try.ntmps34
    go_wp2_with fail
    refine (impl_IsWalker _ _ _ _ _).mono ?_
    rintro e w1 ⟨rfl, hbw1⟩
    obtain ⟨hcw1, hfw1⟩ := bcell hbw1
    have hzw1 := bsize hbw1
    (try simp only [World.size_alloc, World.size_setCell] at hzw1)
    have kw1_0_0 : w1.cell? ⟨w.heap.size, 0, none⟩ = some (.int .i64 h) := by rw [hcw1 _ _ (by first | (simp; done) | omega | (simp; omega))]; first | assumption | (simp [go_sem]; done) | (simp [go_sem]; done) | (simp [go_sem, *]; done)
    have kw1_0_1 : w1.cell? ⟨w.heap.size, 1, none⟩ = some (.int .i64 p) := by rw [hcw1 _ _ (by first | (simp; done) | omega | (simp; omega))]; first | assumption | (simp [go_sem]; done) | (simp [go_sem]; done) | (simp [go_sem, *]; done)
    have kw1_0_2 : w1.cell? ⟨w.heap.size, 2, none⟩ = some (.int .i64 s) := by rw [hcw1 _ _ (by first | (simp; done) | omega | (simp; omega))]; first | assumption | (simp [go_sem]; done) | (simp [go_sem]; done) | (simp [go_sem, *]; done)
    have sw1_0 : w.heap.size < w1.heap.size := by first | omega | (simp at *; omega)
    have hBw1 : Below w.heap.size w w1 := (by repeat (first | exact Below.refl _ _ | refine bl_alloc ?_ _ | refine bl_drewN ?_ _ | refine bl_trans (by assumption) ?_ | refine bl_set ?_ (by first | omega | (simp; done) | (simp; omega)) _))
    have HBw1 := Lib.hid hBw1
    clear hBw1 hcw1 hfw1 hbw1
    rw [h1]
    go_wp2_with fail
    refine ((HM _).out).mono ?_
    rintro e w2 ⟨rfl, hbw2⟩
    obtain ⟨hcw2, hfw2⟩ := bcell hbw2
    have hzw2 := bsize hbw2
    (try simp only [World.size_alloc, World.size_setCell] at hzw2)
    have hkw2 : Below w1.heap.size w1 w2 := (by repeat (first | exact Below.refl _ _ | refine bl_alloc ?_ _ | refine bl_drewN ?_ _ | refine bl_trans (by assumption) ?_ | refine bl_set ?_ (by first | omega | (simp; done) | (simp; omega)) _))
    have kw2_0_0 : w2.cell? ⟨w.heap.size, 0, none⟩ = some (.int .i64 h) := cell_after hkw2 sw1_0 kw1_0_0
    have kw2_0_1 : w2.cell? ⟨w.heap.size, 1, none⟩ = some (.int .i64 p) := cell_after hkw2 sw1_0 kw1_0_1
    have kw2_0_2 : w2.cell? ⟨w.heap.size, 2, none⟩ = some (.int .i64 s) := cell_after hkw2 sw1_0 kw1_0_2
    have sw2_0 : w.heap.size < w2.heap.size := size_after hkw2 sw1_0
    have hBw2 : Below w.heap.size w w2 := (by repeat (first | exact HBw1.out | exact Below.refl _ _ | refine bl_alloc ?_ _ | refine bl_drewN ?_ _ | refine bl_trans (by assumption) ?_ | refine bl_set ?_ (by first | omega | (simp; done) | (simp; omega)) _))
    have HBw2 := Lib.hid hBw2
    clear hBw2 hcw2 hfw2 hbw2 hkw2 kw1_0_0 kw1_0_1 kw1_0_2 sw1_0
    go_wp2
    go_ret3
    exact ⟨by rw [HO.out]; rfl, (by repeat (first | exact HBw2.out | exact Below.refl _ _ | refine bl_alloc ?_ _ | refine bl_drewN ?_ _ | refine bl_trans (by assumption) ?_ | refine bl_set ?_ (by first | omega | (simp; done) | (simp; omega)) _))⟩
  rw [h1, show within 0 0 500 = true from rfl] at hB
  simp only [Bool.true_and] at hB
  rw [hB] at HM
  clear hB
  by_cases hp : p = 0
  · subst hp
    have HO := Lib.hid (show okAL l h 0 s = true by rw [hA, h1]; rfl)
    have e1 := Lib.hid (show alN 0 s = 0 from if_pos rfl)
    have e2 := Lib.hid (show alD 0 s = 1 from if_pos rfl)
    clear hA
    by_cases hs : s = 0
    · subst hs
      clear HM
      go_enter Try.func34, Try.ntmps34
      go_wp2_with fail
      refine (impl_IsWalker _ _ _ _ _).mono ?_
      rintro e w1 ⟨rfl, hbw1⟩
      obtain ⟨hcw1, hfw1⟩ := bcell hbw1
      have hzw1 := bsize hbw1
      (try simp only [World.size_alloc, World.size_setCell] at hzw1)
      have kw1_0_0 : w1.cell? ⟨w.heap.size, 0, none⟩ = some (.int .i64 h) := by rw [hcw1 _ _ (by first | (simp; done) | omega | (simp; omega))]; first | assumption | (simp [go_sem]; done) | (simp [go_sem]; done) | (simp [go_sem, *]; done)
      have kw1_0_1 : w1.cell? ⟨w.heap.size, 1, none⟩ = some (.int .i64 0) := by rw [hcw1 _ _ (by first | (simp; done) | omega | (simp; omega))]; first | assumption | (simp [go_sem]; done) | (simp [go_sem]; done) | (simp [go_sem, *]; done)
      have kw1_0_2 : w1.cell? ⟨w.heap.size, 2, none⟩ = some (.int .i64 0) := by rw [hcw1 _ _ (by first | (simp; done) | omega | (simp; omega))]; first | assumption | (simp [go_sem]; done) | (simp [go_sem]; done) | (simp [go_sem, *]; done)
      have sw1_0 : w.heap.size < w1.heap.size := by first | omega | (simp at *; omega)
      have hBw1 : Below w.heap.size w w1 := (by repeat (first | exact Below.refl _ _ | refine bl_alloc ?_ _ | refine bl_drewN ?_ _ | refine bl_trans (by assumption) ?_ | refine bl_set ?_ (by first | omega | (simp; done) | (simp; omega)) _))
      have HBw1 := Lib.hid hBw1
      clear hBw1 hcw1 hfw1 hbw1
      rw [h1]
      go_wp2
      go_ret3
      exact ⟨by rw [HO.out, e1.out, e2.out]; rfl, (by repeat (first | exact HBw1.out | exact Below.refl _ _ | refine bl_alloc ?_ _ | refine bl_drewN ?_ _ | refine bl_trans (by assumption) ?_ | refine bl_set ?_ (by first | omega | (simp; done) | (simp; omega)) _))⟩
    · obtain ⟨q1, q2, q3⟩ := eq_still hs
      rw [q1, q2, q3] at HM
      have hs' : (s == 0) = false := by simp [hs]
      clear q1 q2 q3
      go_enter Try.func34, Try.ntmps34
      go_wp2_with fail
      refine (impl_IsWalker _ _ _ _ _).mono ?_
      rintro e w1 ⟨rfl, hbw1⟩
      obtain ⟨hcw1, hfw1⟩ := bcell hbw1
      have hzw1 := bsize hbw1
      (try simp only [World.size_alloc, World.size_setCell] at hzw1)
      have kw1_0_0 : w1.cell? ⟨w.heap.size, 0, none⟩ = some (.int .i64 h) := by rw [hcw1 _ _ (by first | (simp; done) | omega | (simp; omega))]; first | assumption | (simp [go_sem]; done) | (simp [go_sem]; done) | (simp [go_sem, *]; done)
      have kw1_0_1 : w1.cell? ⟨w.heap.size, 1, none⟩ = some (.int .i64 0) := by rw [hcw1 _ _ (by first | (simp; done) | omega | (simp; omega))]; first | assumption | (simp [go_sem]; done) | (simp [go_sem]; done) | (simp [go_sem, *]; done)
      have kw1_0_2 : w1.cell? ⟨w.heap.size, 2, none⟩ = some (.int .i64 s) := by rw [hcw1 _ _ (by first | (simp; done) | omega | (simp; omega))]; first | assumption | (simp [go_sem]; done) | (simp [go_sem]; done) | (simp [go_sem, *]; done)
      have sw1_0 : w.heap.size < w1.heap.size := by first | omega | (simp at *; omega)
      have hBw1 : Below w.heap.size w w1 := (by repeat (first | exact Below.refl _ _ | refine bl_alloc ?_ _ | refine bl_drewN ?_ _ | refine bl_trans (by assumption) ?_ | refine bl_set ?_ (by first | omega | (simp; done) | (simp; omega)) _))
      have HBw1 := Lib.hid hBw1
      clear hBw1 hcw1 hfw1 hbw1
      rw [h1]
      go_wp2_with fail
      refine ((HM _).out).mono ?_
      rintro e w2 ⟨rfl, hbw2⟩
      obtain ⟨hcw2, hfw2⟩ := bcell hbw2
      have hzw2 := bsize hbw2
      (try simp only [World.size_alloc, World.size_setCell] at hzw2)
      have hkw2 : Below w1.heap.size w1 w2 := (by repeat (first | exact Below.refl _ _ | refine bl_alloc ?_ _ | refine bl_drewN ?_ _ | refine bl_trans (by assumption) ?_ | refine bl_set ?_ (by first | omega | (simp; done) | (simp; omega)) _))
      have kw2_0_0 : w2.cell? ⟨w.heap.size, 0, none⟩ = some (.int .i64 h) := cell_after hkw2 sw1_0 kw1_0_0
      have kw2_0_1 : w2.cell? ⟨w.heap.size, 1, none⟩ = some (.int .i64 0) := cell_after hkw2 sw1_0 kw1_0_1
      have kw2_0_2 : w2.cell? ⟨w.heap.size, 2, none⟩ = some (.int .i64 s) := cell_after hkw2 sw1_0 kw1_0_2
      have sw2_0 : w.heap.size < w2.heap.size := size_after hkw2 sw1_0
      have hBw2 : Below w.heap.size w w2 := (by repeat (first | exact HBw1.out | exact Below.refl _ _ | refine bl_alloc ?_ _ | refine bl_drewN ?_ _ | refine bl_trans (by assumption) ?_ | refine bl_set ?_ (by first | omega | (simp; done) | (simp; omega)) _))
      have HBw2 := Lib.hid hBw2
      clear hBw2 hcw2 hfw2 hbw2 hkw2 kw1_0_0 kw1_0_1 kw1_0_2 sw1_0
      go_wp2
      go_ret3
      exact ⟨by rw [HO.out, e1.out, e2.out]; rfl, (by repeat (first | exact HBw2.out | exact Below.refl _ _ | refine bl_alloc ?_ _ | refine bl_drewN ?_ _ | refine bl_trans (by assumption) ?_ | refine bl_set ?_ (by first | omega | (simp; done) | (simp; omega)) _))⟩
  · have hp' : (p == 0) = false := by simp [hp]
    have HO := Lib.hid (show okAL l h p s = eqOk (0 * 1 - p) s by rw [hA, h1, hp']; simp)
    have e1 := Lib.hid (show alN p s = ln (eqM (0 * 1 - p) s) (eqG s) by unfold alN; rw [if_neg hp]; rfl)
    have e2 := Lib.hid (show alD p s = ld (eqM (0 * 1 - p) s) (eqG s) by unfold alD; rw [if_neg hp]; rfl)
    clear hA
    generalize eqOk (0 * 1 - p) s = R at *
    generalize ln (eqM (0 * 1 - p) s) (eqG s) = U at *
    generalize ld (eqM (0 * 1 - p) s) (eqG s) = V at *
    go_enter Try.func34, Try.ntmps34
    go_wp2_with fail
    refine (impl_IsWalker _ _ _ _ _).mono ?_
    rintro e w1 ⟨rfl, hbw1⟩
    obtain ⟨hcw1, hfw1⟩ := bcell hbw1
    have hzw1 := bsize hbw1
    (try simp only [World.size_alloc, World.size_setCell] at hzw1)
    have kw1_0_0 : w1.cell? ⟨w.heap.size, 0, none⟩ = some (.int .i64 h) := by rw [hcw1 _ _ (by first | (simp; done) | omega | (simp; omega))]; first | assumption | (simp [go_sem]; done) | (simp [go_sem]; done) | (simp [go_sem, *]; done)
    have kw1_0_1 : w1.cell? ⟨w.heap.size, 1, none⟩ = some (.int .i64 p) := by rw [hcw1 _ _ (by first | (simp; done) | omega | (simp; omega))]; first | assumption | (simp [go_sem]; done) | (simp [go_sem]; done) | (simp [go_sem, *]; done)
    have kw1_0_2 : w1.cell? ⟨w.heap.size, 2, none⟩ = some (.int .i64 s) := by rw [hcw1 _ _ (by first | (simp; done) | omega | (simp; omega))]; first | assumption | (simp [go_sem]; done) | (simp [go_sem]; done) | (simp [go_sem, *]; done)
    have sw1_0 : w.heap.size < w1.heap.size := by first | omega | (simp at *; omega)
    have hBw1 : Below w.heap.size w w1 := (by repeat (first | exact Below.refl _ _ | refine bl_alloc ?_ _ | refine bl_drewN ?_ _ | refine bl_trans (by assumption) ?_ | refine bl_set ?_ (by first | omega | (simp; done) | (simp; omega)) _))
    have HBw1 := Lib.hid hBw1
    clear hBw1 hcw1 hfw1 hbw1
    rw [h1]
    go_wp2_with fail
    refine ((HM _).out).mono ?_
    rintro e w2 ⟨rfl, hbw2⟩
    obtain ⟨hcw2, hfw2⟩ := bcell hbw2
    have hzw2 := bsize hbw2
    (try simp only [World.size_alloc, World.size_setCell] at hzw2)
    have hkw2 : Below w1.heap.size w1 w2 := (by repeat (first | exact Below.refl _ _ | refine bl_alloc ?_ _ | refine bl_drewN ?_ _ | refine bl_trans (by assumption) ?_ | refine bl_set ?_ (by first | omega | (simp; done) | (simp; omega)) _))
    have kw2_0_0 : w2.cell? ⟨w.heap.size, 0, none⟩ = some (.int .i64 h) := cell_after hkw2 sw1_0 kw1_0_0
    have kw2_0_1 : w2.cell? ⟨w.heap.size, 1, none⟩ = some (.int .i64 p) := cell_after hkw2 sw1_0 kw1_0_1
    have kw2_0_2 : w2.cell? ⟨w.heap.size, 2, none⟩ = some (.int .i64 s) := cell_after hkw2 sw1_0 kw1_0_2
    have sw2_0 : w.heap.size < w2.heap.size := size_after hkw2 sw1_0
    have hBw2 : Below w.heap.size w w2 := (by repeat (first | exact HBw1.out | exact Below.refl _ _ | refine bl_alloc ?_ _ | refine bl_drewN ?_ _ | refine bl_trans (by assumption) ?_ | refine bl_set ?_ (by first | omega | (simp; done) | (simp; omega)) _))
    have HBw2 := Lib.hid hBw2
    clear hBw2 hcw2 hfw2 hbw2 hkw2 kw1_0_0 kw1_0_1 kw1_0_2 sw1_0
    go_wp2
    go_ret3
    exact ⟨by rw [HO.out, e1.out, e2.out]; rfl, (by repeat (first | exact HBw2.out | exact Below.refl _ _ | refine bl_alloc ?_ _ | refine bl_drewN ?_ _ | refine bl_trans (by assumption) ?_ | refine bl_set ?_ (by first | omega | (simp; done) | (simp; omega)) _))⟩
set_option maxHeartbeats 2000000 in
theorem spec_MinuteAtLamp (l h p s : Int) (w : World) :
    Calls Try.prog 33 #[.int .i64 l, .agg #[.int .i64 h, .int .i64 p, .int .i64 s]] w fun e w' => e = .returned (.tuple #[.int .i64 (Z (okAL l h p s) (alN p s)), .int .i64 (Z (okAL l h p s) (alD p s)), .bool (okAL l h p s)]) ∧ Below w.heap.size w w' := by
  have hA : okAL l h p s = (okWk l h p s && (p == 0 || eqOk (0 - p) s)) := rfl
  cases h1 : okWk l h p s
  · have HO := Lib.hid (show okAL l h p s = false by rw [hA, h1]; rfl)
    clear hA
    go_enter Try.func33, Try.ntmps33
    go_wp2_with fail
    refine (spec_wkGood _ _ _ _ _).mono ?_
    rintro e w1 ⟨rfl, hbw1⟩
    obtain ⟨hcw1, hfw1⟩ := bcell hbw1
    have hzw1 := bsize hbw1
    (try simp only [World.size_alloc, World.size_setCell] at hzw1)
    have kw1_0_0 : w1.cell? ⟨w.heap.size, 0, none⟩ = some (.int .i64 h) := by rw [hcw1 _ _ (by first | (simp; done) | omega | (simp; omega))]; first | assumption | (simp [go_sem]; done) | (simp [go_sem]; done) | (simp [go_sem, *]; done)
    have kw1_0_1 : w1.cell? ⟨w.heap.size, 1, none⟩ = some (.int .i64 p) := by rw [hcw1 _ _ (by first | (simp; done) | omega | (simp; omega))]; first | assumption | (simp [go_sem]; done) | (simp [go_sem]; done) | (simp [go_sem, *]; done)
    have kw1_0_2 : w1.cell? ⟨w.heap.size, 2, none⟩ = some (.int .i64 s) := by rw [hcw1 _ _ (by first | (simp; done) | omega | (simp; omega))]; first | assumption | (simp [go_sem]; done) | (simp [go_sem]; done) | (simp [go_sem, *]; done)
    have sw1_0 : w.heap.size < w1.heap.size := by first | omega | (simp at *; omega)
    have hBw1 : Below w.heap.size w w1 := (by repeat (first | exact Below.refl _ _ | refine bl_alloc ?_ _ | refine bl_drewN ?_ _ | refine bl_trans (by assumption) ?_ | refine bl_set ?_ (by first | omega | (simp; done) | (simp; omega)) _))
    have HBw1 := Lib.hid hBw1
    clear hBw1 hcw1 hfw1 hbw1
    rw [h1]
    go_wp2
    go_ret3
    exact ⟨by rw [HO.out]; rfl, (by repeat (first | exact HBw1.out | exact Below.refl _ _ | refine bl_alloc ?_ _ | refine bl_drewN ?_ _ | refine bl_trans (by assumption) ?_ | refine bl_set ?_ (by first | omega | (simp; done) | (simp; omega)) _))⟩
  by_cases hp : p = 0
  · subst hp
    have HO := Lib.hid (show okAL l h 0 s = true by rw [hA, h1]; rfl)
    have e1 := Lib.hid (show alN 0 s = 0 from if_pos rfl)
    have e2 := Lib.hid (show alD 0 s = 1 from if_pos rfl)
    clear hA
    go_enter Try.func33, Try.ntmps33
    go_wp2_with fail
    refine (spec_wkGood _ _ _ _ _).mono ?_
    rintro e w1 ⟨rfl, hbw1⟩
    obtain ⟨hcw1, hfw1⟩ := bcell hbw1
    have hzw1 := bsize hbw1
    (try simp only [World.size_alloc, World.size_setCell] at hzw1)
    have kw1_0_0 : w1.cell? ⟨w.heap.size, 0, none⟩ = some (.int .i64 h) := by rw [hcw1 _ _ (by first | (simp; done) | omega | (simp; omega))]; first | assumption | (simp [go_sem]; done) | (simp [go_sem]; done) | (simp [go_sem, *]; done)
    have kw1_0_1 : w1.cell? ⟨w.heap.size, 1, none⟩ = some (.int .i64 0) := by rw [hcw1 _ _ (by first | (simp; done) | omega | (simp; omega))]; first | assumption | (simp [go_sem]; done) | (simp [go_sem]; done) | (simp [go_sem, *]; done)
    have kw1_0_2 : w1.cell? ⟨w.heap.size, 2, none⟩ = some (.int .i64 s) := by rw [hcw1 _ _ (by first | (simp; done) | omega | (simp; omega))]; first | assumption | (simp [go_sem]; done) | (simp [go_sem]; done) | (simp [go_sem, *]; done)
    have sw1_0 : w.heap.size < w1.heap.size := by first | omega | (simp at *; omega)
    have hBw1 : Below w.heap.size w w1 := (by repeat (first | exact Below.refl _ _ | refine bl_alloc ?_ _ | refine bl_drewN ?_ _ | refine bl_trans (by assumption) ?_ | refine bl_set ?_ (by first | omega | (simp; done) | (simp; omega)) _))
    have HBw1 := Lib.hid hBw1
    clear hBw1 hcw1 hfw1 hbw1
    rw [h1]
    go_wp2
    go_ret3
    exact ⟨by rw [HO.out, e1.out, e2.out]; rfl, (by repeat (first | exact HBw1.out | exact Below.refl _ _ | refine bl_alloc ?_ _ | refine bl_drewN ?_ _ | refine bl_trans (by assumption) ?_ | refine bl_set ?_ (by first | omega | (simp; done) | (simp; omega)) _))⟩
  · have hp' : (p == 0) = false := by simp [hp]
    obtain ⟨⟨l1, l2⟩, ⟨g1, g2⟩, ⟨p1, p2⟩, s1, s2⟩ := okWk_true h1
    have HL := fun W => Lib.hid (wkWhen_any h p s 0 1 p1 p2 s1 s2 (by omega) (by omega) (by omega) (by omega) W)
    rw [show (0 : Int) - p * 1 = 0 - p by omega, show s * 1 = s by omega] at HL
    have HO := Lib.hid (show okAL l h p s = eqOk (0 - p) s by rw [hA, h1, hp']; simp)
    have e1 := Lib.hid (show alN p s = ln (eqM (0 - p) s) (eqG s) by unfold alN; rw [if_neg hp])
    have e2 := Lib.hid (show alD p s = ld (eqM (0 - p) s) (eqG s) by unfold alD; rw [if_neg hp])
    clear hA
    generalize eqOk (0 - p) s = R at *
    generalize ln (eqM (0 - p) s) (eqG s) = U at *
    generalize ld (eqM (0 - p) s) (eqG s) = V at *
    go_enter Try.func33, Try.ntmps33
    go_wp2_with fail
    refine (spec_wkGood _ _ _ _ _).mono ?_
    rintro e w1 ⟨rfl, hbw1⟩
    obtain ⟨hcw1, hfw1⟩ := bcell hbw1
    have hzw1 := bsize hbw1
    (try simp only [World.size_alloc, World.size_setCell] at hzw1)
    have kw1_0_0 : w1.cell? ⟨w.heap.size, 0, none⟩ = some (.int .i64 h) := by rw [hcw1 _ _ (by first | (simp; done) | omega | (simp; omega))]; first | assumption | (simp [go_sem]; done) | (simp [go_sem]; done) | (simp [go_sem, *]; done)
    have kw1_0_1 : w1.cell? ⟨w.heap.size, 1, none⟩ = some (.int .i64 p) := by rw [hcw1 _ _ (by first | (simp; done) | omega | (simp; omega))]; first | assumption | (simp [go_sem]; done) | (simp [go_sem]; done) | (simp [go_sem, *]; done)
    have kw1_0_2 : w1.cell? ⟨w.heap.size, 2, none⟩ = some (.int .i64 s) := by rw [hcw1 _ _ (by first | (simp; done) | omega | (simp; omega))]; first | assumption | (simp [go_sem]; done) | (simp [go_sem]; done) | (simp [go_sem, *]; done)
    have sw1_0 : w.heap.size < w1.heap.size := by first | omega | (simp at *; omega)
    have hBw1 : Below w.heap.size w w1 := (by repeat (first | exact Below.refl _ _ | refine bl_alloc ?_ _ | refine bl_drewN ?_ _ | refine bl_trans (by assumption) ?_ | refine bl_set ?_ (by first | omega | (simp; done) | (simp; omega)) _))
    have HBw1 := Lib.hid hBw1
    clear hBw1 hcw1 hfw1 hbw1
    rw [h1]
    go_wp2_with fail
    refine ((HL _).out).mono ?_
    rintro e w2 ⟨rfl, hbw2⟩
    obtain ⟨hcw2, hfw2⟩ := bcell hbw2
    have hzw2 := bsize hbw2
    (try simp only [World.size_alloc, World.size_setCell] at hzw2)
    have hkw2 : Below w1.heap.size w1 w2 := (by repeat (first | exact Below.refl _ _ | refine bl_alloc ?_ _ | refine bl_drewN ?_ _ | refine bl_trans (by assumption) ?_ | refine bl_set ?_ (by first | omega | (simp; done) | (simp; omega)) _))
    have kw2_0_0 : w2.cell? ⟨w.heap.size, 0, none⟩ = some (.int .i64 h) := cell_after hkw2 sw1_0 kw1_0_0
    have kw2_0_1 : w2.cell? ⟨w.heap.size, 1, none⟩ = some (.int .i64 p) := cell_after hkw2 sw1_0 kw1_0_1
    have kw2_0_2 : w2.cell? ⟨w.heap.size, 2, none⟩ = some (.int .i64 s) := cell_after hkw2 sw1_0 kw1_0_2
    have sw2_0 : w.heap.size < w2.heap.size := size_after hkw2 sw1_0
    have hBw2 : Below w.heap.size w w2 := (by repeat (first | exact HBw1.out | exact Below.refl _ _ | refine bl_alloc ?_ _ | refine bl_drewN ?_ _ | refine bl_trans (by assumption) ?_ | refine bl_set ?_ (by first | omega | (simp; done) | (simp; omega)) _))
    have HBw2 := Lib.hid hBw2
    clear hBw2 hcw2 hfw2 hbw2 hkw2 kw1_0_0 kw1_0_1 kw1_0_2 sw1_0
    go_wp2
    go_ret3
    exact ⟨by rw [HO.out, e1.out, e2.out]; rfl, (by repeat (first | exact HBw2.out | exact Below.refl _ _ | refine bl_alloc ?_ _ | refine bl_drewN ?_ _ | refine bl_trans (by assumption) ?_ | refine bl_set ?_ (by first | omega | (simp; done) | (simp; omega)) _))⟩
end Go.Proofs.Ytkcncjoekbbolaa

/- Contracts of the functions of chapter 5: heights for touches, orders at corners, spots that are moved. -/
import Derived.Test.YtbnkigponkelpaaLW1
import Derived.Deep.QuietTactic
namespace Go.Proofs.Ytbnkigponkelpaa
open Go.RowKit
set_option linter.unusedVariables false
set_option linter.unusedSimpArgs false
set_option maxHeartbeats 400000 in
theorem distance_any (a b : Int) (ha : -1000000000 ≤ a) (ha2 : a ≤ 1000000000) (hb : -1000000000 ≤ b) (hb2 : b ≤ 1000000000) (w : World) :
    Calls Try.prog 42 #[.int .i64 a, .int .i64 b] w fun e w' => e = .returned (.int .i64 (max (a - b) (b - a))) ∧ w = w' := by
  go_enter Try.func42, Try.ntmps42
  go_wp2
  all_goals (go_ret; exact ⟨by first | rfl | exact ret_int (by omega), rfl⟩)
set_option maxHeartbeats 400000 in
theorem l1Most_any (x y : Int) (w : World) :
    Calls Try.prog 57 #[.int .i64 x, .int .i64 y] w fun e w' => e = .returned (.int .i64 (max x y)) ∧ w = w' := by
  go_enter Try.func57, Try.ntmps57
  go_wp2
  all_goals (go_ret; exact ⟨ret_int (by show _ = max x y; omega), rfl⟩)
set_option maxHeartbeats 400000 in
theorem l1Abs_any (x : Int) (h1 : -1000000000 ≤ x) (h2 : x ≤ 1000000000) (w : World) :
    Calls Try.prog 47 #[.int .i64 x] w fun e w' => e = .returned (.int .i64 (max x (-x))) ∧ w = w' := by
  go_enter Try.func47, Try.ntmps47
  go_wp2_with (go_at_call 57; refine (l1Most_any _ _ _).mono ?_; rintro e w' ⟨rfl, rfl⟩)
  go_ret
  exact ⟨rfl, rfl⟩
set_option maxHeartbeats 400000 in
theorem l1Sign_any (x : Int) (w : World) :
    Calls Try.prog 46 #[.int .i64 x] w fun e w' => e = .returned (.int .i64 (if 0 < x then 1 else if x < 0 then -1 else 0)) ∧ w = w' := by
  by_cases h : 0 < x
  · rw [if_pos h]
    go_enter Try.func46, Try.ntmps46
    go_wp2
    go_ret
    exact ⟨rfl, rfl⟩
  · rw [if_neg h]
    by_cases h2 : x < 0
    · rw [if_pos h2]
      go_enter Try.func46, Try.ntmps46
      go_wp2
      go_ret
      exact ⟨rfl, rfl⟩
    · rw [if_neg h2]
      go_enter Try.func46, Try.ntmps46
      go_wp2
      go_ret
      exact ⟨rfl, rfl⟩
def inX (a b x p : Int) : Bool := okSp a b && (within x (-1000) 1000 && within p (-1000) 1000)
def btw (a x p : Int) : Bool := decide (min a x < p) && decide (p < max a x)
def okHT (a b x p : Int) : Bool := inX a b x p && btw a x p
def HT (f : Int → Int → Int) (a b x p : Int) : Int := if okHT a b x p then f (b * max (p - x) (x - p)) (max (a - p) (p - a)) else 0
theorem btw_iff (a x p : Int) : btw a x p = decide (0 < (p - a) * (x - p)) := by
  unfold btw
  rw [Bool.eq_iff_iff]
  simp only [Bool.and_eq_true, decide_eq_true_eq]
  constructor
  · rintro ⟨h1, h2⟩
    rcases Int.le_total a x with h | h
    · exact Int.mul_pos (by omega) (by omega)
    · have := Int.mul_pos (a := -(p - a)) (b := -(x - p)) (by omega) (by omega)
      rwa [Int.neg_mul_neg] at this
  · intro h
    by_cases h1 : a < p
    · have h2 : 0 < x - p := by
        by_cases c : 0 < x - p
        · exact c
        · have := Int.mul_nonneg (a := p - a) (b := -(x - p)) (by omega) (by omega)
          rw [Int.mul_neg] at this
          omega
      omega
    · have h2 : x - p < 0 := by
        by_cases c : x - p < 0
        · exact c
        · have := Int.mul_nonneg (a := -(p - a)) (b := x - p) (by omega) (by omega)
          rw [Int.neg_mul] at this
          omega
      by_cases c : p = a
      · subst c; rw [Int.sub_self, Int.zero_mul] at h; omega
      · omega
set_option maxRecDepth 100000 in
set_option maxHeartbeats 6000000 in
theorem impl_HeightForTouch (a b x p : Int) (w : World) :
    Calls Try.prog 19 #[.agg #[.int .i64 a, .int .i64 b], .int .i64 x, .int .i64 p] w fun e w' => e = .returned (.tuple #[.int .i64 (HT ln a b x p), .int .i64 (HT ld a b x p), .bool (okHT a b x p)]) ∧ Below w.heap.size w w' := by
  cases h1 : okSp a b
  · go_enter Try.func19, Try.ntmps19
    go_wp2_with fail
    refine (impl_IsSpot _ _ _).mono ?_
    rintro e w1 ⟨rfl, hb1⟩
    obtain ⟨hc1, hf1⟩ := bcell hb1
    have hz1 := bsize hb1
    (try simp only [World.size_alloc, World.size_setCell] at hz1)
    have k1_0_0 : w1.cell? ⟨w.heap.size, 0, none⟩ = some (.int .i64 a) := by rw [hc1 _ _ (by first | (simp; done) | omega | (simp; omega))]; first | assumption | (simp [go_sem]; done) | (simp [go_sem]; done) | (simp [go_sem, *]; done)
    have k1_0_1 : w1.cell? ⟨w.heap.size, 1, none⟩ = some (.int .i64 b) := by rw [hc1 _ _ (by first | (simp; done) | omega | (simp; omega))]; first | assumption | (simp [go_sem]; done) | (simp [go_sem]; done) | (simp [go_sem, *]; done)
    have s1_0 : w.heap.size < w1.heap.size := by omega
    have hB1 : Below w.heap.size w w1 := (by repeat (first | exact Below.refl _ _ | refine bl_alloc ?_ _ | refine bl_drewN ?_ _ | refine bl_trans (by assumption) ?_ | refine bl_set ?_ (by first | omega | (simp; done) | (simp; omega)) _))
    have HB1 := Lib.hid hB1
    clear hB1 hc1 hf1 hb1
    rw [h1]
    go_wp2
    go_ret3
    exact ⟨by simp [HT, okHT, inX, h1], (by repeat (first | exact HB1.out | exact Below.refl _ _ | refine bl_alloc ?_ _ | refine bl_drewN ?_ _ | refine bl_trans (by assumption) ?_ | refine bl_set ?_ (by first | omega | (simp; done) | (simp; omega)) _))⟩
  cases h2 : within x (-1000) 1000
  · go_enter Try.func19, Try.ntmps19
    go_wp2_with fail
    refine (impl_IsSpot _ _ _).mono ?_
    rintro e w1 ⟨rfl, hb1⟩
    obtain ⟨hc1, hf1⟩ := bcell hb1
    have hz1 := bsize hb1
    (try simp only [World.size_alloc, World.size_setCell] at hz1)
    have k1_0_0 : w1.cell? ⟨w.heap.size, 0, none⟩ = some (.int .i64 a) := by rw [hc1 _ _ (by first | (simp; done) | omega | (simp; omega))]; first | assumption | (simp [go_sem]; done) | (simp [go_sem]; done) | (simp [go_sem, *]; done)
    have k1_0_1 : w1.cell? ⟨w.heap.size, 1, none⟩ = some (.int .i64 b) := by rw [hc1 _ _ (by first | (simp; done) | omega | (simp; omega))]; first | assumption | (simp [go_sem]; done) | (simp [go_sem]; done) | (simp [go_sem, *]; done)
    have s1_0 : w.heap.size < w1.heap.size := by omega
    have hB1 : Below w.heap.size w w1 := (by repeat (first | exact Below.refl _ _ | refine bl_alloc ?_ _ | refine bl_drewN ?_ _ | refine bl_trans (by assumption) ?_ | refine bl_set ?_ (by first | omega | (simp; done) | (simp; omega)) _))
    have HB1 := Lib.hid hB1
    clear hB1 hc1 hf1 hb1
    rw [h1]
    go_wp2_with fail
    refine (isWithinSpots_any _ _).mono ?_
    rintro e w' ⟨rfl, rfl⟩
    rw [h2]
    go_wp2
    go_ret3
    exact ⟨by simp [HT, okHT, inX, h1, h2], (by repeat (first | exact HB1.out | exact Below.refl _ _ | refine bl_alloc ?_ _ | refine bl_drewN ?_ _ | refine bl_trans (by assumption) ?_ | refine bl_set ?_ (by first | omega | (simp; done) | (simp; omega)) _))⟩
  cases h3 : within p (-1000) 1000
  · go_enter Try.func19, Try.ntmps19
    go_wp2_with fail
    refine (impl_IsSpot _ _ _).mono ?_
    rintro e w1 ⟨rfl, hb1⟩
    obtain ⟨hc1, hf1⟩ := bcell hb1
    have hz1 := bsize hb1
    (try simp only [World.size_alloc, World.size_setCell] at hz1)
    have k1_0_0 : w1.cell? ⟨w.heap.size, 0, none⟩ = some (.int .i64 a) := by rw [hc1 _ _ (by first | (simp; done) | omega | (simp; omega))]; first | assumption | (simp [go_sem]; done) | (simp [go_sem]; done) | (simp [go_sem, *]; done)
    have k1_0_1 : w1.cell? ⟨w.heap.size, 1, none⟩ = some (.int .i64 b) := by rw [hc1 _ _ (by first | (simp; done) | omega | (simp; omega))]; first | assumption | (simp [go_sem]; done) | (simp [go_sem]; done) | (simp [go_sem, *]; done)
    have s1_0 : w.heap.size < w1.heap.size := by omega
    have hB1 : Below w.heap.size w w1 := (by repeat (first | exact Below.refl _ _ | refine bl_alloc ?_ _ | refine bl_drewN ?_ _ | refine bl_trans (by assumption) ?_ | refine bl_set ?_ (by first | omega | (simp; done) | (simp; omega)) _))
    have HB1 := Lib.hid hB1
    clear hB1 hc1 hf1 hb1
    rw [h1]
    go_wp2_with fail
    refine (isWithinSpots_any _ _).mono ?_
    rintro e w' ⟨rfl, rfl⟩
    rw [h2]
    go_wp2_with fail
    refine (isWithinSpots_any _ _).mono ?_
    rintro e w' ⟨rfl, rfl⟩
    rw [h3]
    go_wp2
    go_ret3
    exact ⟨by simp [HT, okHT, inX, h1, h2, h3], (by repeat (first | exact HB1.out | exact Below.refl _ _ | refine bl_alloc ?_ _ | refine bl_drewN ?_ _ | refine bl_trans (by assumption) ?_ | refine bl_set ?_ (by first | omega | (simp; done) | (simp; omega)) _))⟩
  obtain ⟨⟨a1, a2⟩, b1, b2⟩ := okSp_true h1
  obtain ⟨x1, x2⟩ := within_true h2
  obtain ⟨p1, p2⟩ := within_true h3
  rcases Int.le_total a x with hle | hle
  · have e1 : min a x = a := by omega
    have e2 : max a x = x := by omega
    by_cases m1 : a < p
    · by_cases m2 : p < x
      · have HO := Lib.hid (show okHT a b x p = true by simp only [okHT, inX, btw, h1, h2, h3, e1, e2, decide_eq_true m1, decide_eq_true m2]; rfl)
        have HR1 := Lib.hid (show HT ln a b x p = ln (b * max (p - x) (x - p)) (max (a - p) (p - a)) by unfold HT; rw [HO.out]; rfl)
        have HR2 := Lib.hid (show HT ld a b x p = ld (b * max (p - x) (x - p)) (max (a - p) (p - a)) by unfold HT; rw [HO.out]; rfl)
        have HD1 := fun W => Lib.hid (distance_any p x (by omega) (by omega) (by omega) (by omega) W)
        have HD2 := fun W => Lib.hid (distance_any a p (by omega) (by omega) (by omega) (by omega) W)
        have g1 : 0 ≤ max (p - x) (x - p) := by omega
        have g2 : max (p - x) (x - p) ≤ 2000 := by omega
        have g3 : 1 ≤ max (a - p) (p - a) := by omega
        have g4 : max (a - p) (p - a) ≤ 2000 := by omega
        generalize max (p - x) (x - p) = D at *
        generalize max (a - p) (p - a) = E at *
        clear e1 e2
        obtain ⟨f1, f2⟩ := mul_bd2 (a := b) (b := D) (m := 1000) (k := 2000) (by omega) g1 b2 g2
        have HTF := fun W => Lib.hid (toldFraction_any (b * D) E f1 (by omega) g3 (by omega) W)
        go_enter Try.func19, Try.ntmps19
        go_wp2_with fail
        refine (impl_IsSpot _ _ _).mono ?_
        rintro e w1 ⟨rfl, hb1⟩
        obtain ⟨hc1, hf1⟩ := bcell hb1
        have hz1 := bsize hb1
        (try simp only [World.size_alloc, World.size_setCell] at hz1)
        have k1_0_0 : w1.cell? ⟨w.heap.size, 0, none⟩ = some (.int .i64 a) := by rw [hc1 _ _ (by first | (simp; done) | omega | (simp; omega))]; first | assumption | (simp [go_sem]; done) | (simp [go_sem]; done) | (simp [go_sem, *]; done)
        have k1_0_1 : w1.cell? ⟨w.heap.size, 1, none⟩ = some (.int .i64 b) := by rw [hc1 _ _ (by first | (simp; done) | omega | (simp; omega))]; first | assumption | (simp [go_sem]; done) | (simp [go_sem]; done) | (simp [go_sem, *]; done)
        have s1_0 : w.heap.size < w1.heap.size := by omega
        have hB1 : Below w.heap.size w w1 := (by repeat (first | exact Below.refl _ _ | refine bl_alloc ?_ _ | refine bl_drewN ?_ _ | refine bl_trans (by assumption) ?_ | refine bl_set ?_ (by first | omega | (simp; done) | (simp; omega)) _))
        have HB1 := Lib.hid hB1
        clear hB1 hc1 hf1 hb1
        rw [h1]
        go_wp2_with fail
        refine (isWithinSpots_any _ _).mono ?_
        rintro e w' ⟨rfl, rfl⟩
        rw [h2]
        go_wp2_with fail
        refine (isWithinSpots_any _ _).mono ?_
        rintro e w' ⟨rfl, rfl⟩
        rw [h3]
        go_wp2_with fail
        all_goals
          go_quiet (first | (go_at_call_of 42 (Value.int IntKind.i64 x); exact quiet_eq (HD1 _).out) | (go_at_call_of 42 (Value.int IntKind.i64 a); exact quiet_eq (HD2 _).out) | (go_at_call 41; exact Calls.quiet_of (HTF _).out))
          go_wp2
          go_ret3
          exact ⟨by rw [HR1.out, HR2.out, HO.out]; rfl, (by repeat (first | exact HB1.out | exact Below.refl _ _ | refine bl_alloc ?_ _ | refine bl_drewN ?_ _ | refine bl_trans (by assumption) ?_ | refine bl_set ?_ (by first | omega | (simp; done) | (simp; omega)) _))⟩
      · have HO := Lib.hid (show okHT a b x p = false by simp only [okHT, inX, btw, h1, h2, h3, e1, e2, decide_eq_true m1, decide_eq_false m2]; rfl)
        clear e1 e2
        go_enter Try.func19, Try.ntmps19
        go_wp2_with fail
        refine (impl_IsSpot _ _ _).mono ?_
        rintro e w1 ⟨rfl, hb1⟩
        obtain ⟨hc1, hf1⟩ := bcell hb1
        have hz1 := bsize hb1
        (try simp only [World.size_alloc, World.size_setCell] at hz1)
        have k1_0_0 : w1.cell? ⟨w.heap.size, 0, none⟩ = some (.int .i64 a) := by rw [hc1 _ _ (by first | (simp; done) | omega | (simp; omega))]; first | assumption | (simp [go_sem]; done) | (simp [go_sem]; done) | (simp [go_sem, *]; done)
        have k1_0_1 : w1.cell? ⟨w.heap.size, 1, none⟩ = some (.int .i64 b) := by rw [hc1 _ _ (by first | (simp; done) | omega | (simp; omega))]; first | assumption | (simp [go_sem]; done) | (simp [go_sem]; done) | (simp [go_sem, *]; done)
        have s1_0 : w.heap.size < w1.heap.size := by omega
        have hB1 : Below w.heap.size w w1 := (by repeat (first | exact Below.refl _ _ | refine bl_alloc ?_ _ | refine bl_drewN ?_ _ | refine bl_trans (by assumption) ?_ | refine bl_set ?_ (by first | omega | (simp; done) | (simp; omega)) _))
        have HB1 := Lib.hid hB1
        clear hB1 hc1 hf1 hb1
        rw [h1]
        go_wp2_with fail
        refine (isWithinSpots_any _ _).mono ?_
        rintro e w' ⟨rfl, rfl⟩
        rw [h2]
        go_wp2_with fail
        refine (isWithinSpots_any _ _).mono ?_
        rintro e w' ⟨rfl, rfl⟩
        rw [h3]
        go_wp2
        all_goals (go_ret3; exact ⟨by simp [HT, HO.out], (by repeat (first | exact HB1.out | exact Below.refl _ _ | refine bl_alloc ?_ _ | refine bl_drewN ?_ _ | refine bl_trans (by assumption) ?_ | refine bl_set ?_ (by first | omega | (simp; done) | (simp; omega)) _))⟩)
    · have HO := Lib.hid (show okHT a b x p = false by simp only [okHT, inX, btw, h1, h2, h3, e1, decide_eq_false m1]; rfl)
      clear e1 e2
      go_enter Try.func19, Try.ntmps19
      go_wp2_with fail
      refine (impl_IsSpot _ _ _).mono ?_
      rintro e w1 ⟨rfl, hb1⟩
      obtain ⟨hc1, hf1⟩ := bcell hb1
      have hz1 := bsize hb1
      (try simp only [World.size_alloc, World.size_setCell] at hz1)
      have k1_0_0 : w1.cell? ⟨w.heap.size, 0, none⟩ = some (.int .i64 a) := by rw [hc1 _ _ (by first | (simp; done) | omega | (simp; omega))]; first | assumption | (simp [go_sem]; done) | (simp [go_sem]; done) | (simp [go_sem, *]; done)
      have k1_0_1 : w1.cell? ⟨w.heap.size, 1, none⟩ = some (.int .i64 b) := by rw [hc1 _ _ (by first | (simp; done) | omega | (simp; omega))]; first | assumption | (simp [go_sem]; done) | (simp [go_sem]; done) | (simp [go_sem, *]; done)
      have s1_0 : w.heap.size < w1.heap.size := by omega
      have hB1 : Below w.heap.size w w1 := (by repeat (first | exact Below.refl _ _ | refine bl_alloc ?_ _ | refine bl_drewN ?_ _ | refine bl_trans (by assumption) ?_ | refine bl_set ?_ (by first | omega | (simp; done) | (simp; omega)) _))
      have HB1 := Lib.hid hB1
      clear hB1 hc1 hf1 hb1
      rw [h1]
      go_wp2_with fail
      refine (isWithinSpots_any _ _).mono ?_
      rintro e w' ⟨rfl, rfl⟩
      rw [h2]
      go_wp2_with fail
      refine (isWithinSpots_any _ _).mono ?_
      rintro e w' ⟨rfl, rfl⟩
      rw [h3]
      go_wp2
      all_goals (go_ret3; exact ⟨by simp [HT, HO.out], (by repeat (first | exact HB1.out | exact Below.refl _ _ | refine bl_alloc ?_ _ | refine bl_drewN ?_ _ | refine bl_trans (by assumption) ?_ | refine bl_set ?_ (by first | omega | (simp; done) | (simp; omega)) _))⟩)
  · have e1 : min a x = x := by omega
    have e2 : max a x = a := by omega
    by_cases m1 : x < p
    · by_cases m2 : p < a
      · have HO := Lib.hid (show okHT a b x p = true by simp only [okHT, inX, btw, h1, h2, h3, e1, e2, decide_eq_true m1, decide_eq_true m2]; rfl)
        have HR1 := Lib.hid (show HT ln a b x p = ln (b * max (p - x) (x - p)) (max (a - p) (p - a)) by unfold HT; rw [HO.out]; rfl)
        have HR2 := Lib.hid (show HT ld a b x p = ld (b * max (p - x) (x - p)) (max (a - p) (p - a)) by unfold HT; rw [HO.out]; rfl)
        have HD1 := fun W => Lib.hid (distance_any p x (by omega) (by omega) (by omega) (by omega) W)
        have HD2 := fun W => Lib.hid (distance_any a p (by omega) (by omega) (by omega) (by omega) W)
        have g1 : 0 ≤ max (p - x) (x - p) := by omega
        have g2 : max (p - x) (x - p) ≤ 2000 := by omega
        have g3 : 1 ≤ max (a - p) (p - a) := by omega
        have g4 : max (a - p) (p - a) ≤ 2000 := by omega
        generalize max (p - x) (x - p) = D at *
        generalize max (a - p) (p - a) = E at *
        clear e1 e2
        obtain ⟨f1, f2⟩ := mul_bd2 (a := b) (b := D) (m := 1000) (k := 2000) (by omega) g1 b2 g2
        have HTF := fun W => Lib.hid (toldFraction_any (b * D) E f1 (by omega) g3 (by omega) W)
        go_enter Try.func19, Try.ntmps19
        go_wp2_with fail
        refine (impl_IsSpot _ _ _).mono ?_
        rintro e w1 ⟨rfl, hb1⟩
        obtain ⟨hc1, hf1⟩ := bcell hb1
        have hz1 := bsize hb1
        (try simp only [World.size_alloc, World.size_setCell] at hz1)
        have k1_0_0 : w1.cell? ⟨w.heap.size, 0, none⟩ = some (.int .i64 a) := by rw [hc1 _ _ (by first | (simp; done) | omega | (simp; omega))]; first | assumption | (simp [go_sem]; done) | (simp [go_sem]; done) | (simp [go_sem, *]; done)
        have k1_0_1 : w1.cell? ⟨w.heap.size, 1, none⟩ = some (.int .i64 b) := by rw [hc1 _ _ (by first | (simp; done) | omega | (simp; omega))]; first | assumption | (simp [go_sem]; done) | (simp [go_sem]; done) | (simp [go_sem, *]; done)
        have s1_0 : w.heap.size < w1.heap.size := by omega
        have hB1 : Below w.heap.size w w1 := (by repeat (first | exact Below.refl _ _ | refine bl_alloc ?_ _ | refine bl_drewN ?_ _ | refine bl_trans (by assumption) ?_ | refine bl_set ?_ (by first | omega | (simp; done) | (simp; omega)) _))
        have HB1 := Lib.hid hB1
        clear hB1 hc1 hf1 hb1
        rw [h1]
        go_wp2_with fail
        refine (isWithinSpots_any _ _).mono ?_
        rintro e w' ⟨rfl, rfl⟩
        rw [h2]
        go_wp2_with fail
        refine (isWithinSpots_any _ _).mono ?_
        rintro e w' ⟨rfl, rfl⟩
        rw [h3]
        go_wp2_with fail
        all_goals
          go_quiet (first | (go_at_call_of 42 (Value.int IntKind.i64 x); exact quiet_eq (HD1 _).out) | (go_at_call_of 42 (Value.int IntKind.i64 a); exact quiet_eq (HD2 _).out) | (go_at_call 41; exact Calls.quiet_of (HTF _).out))
          go_wp2
          go_ret3
          exact ⟨by rw [HR1.out, HR2.out, HO.out]; rfl, (by repeat (first | exact HB1.out | exact Below.refl _ _ | refine bl_alloc ?_ _ | refine bl_drewN ?_ _ | refine bl_trans (by assumption) ?_ | refine bl_set ?_ (by first | omega | (simp; done) | (simp; omega)) _))⟩
      · have HO := Lib.hid (show okHT a b x p = false by simp only [okHT, inX, btw, h1, h2, h3, e1, e2, decide_eq_true m1, decide_eq_false m2]; rfl)
        clear e1 e2
        go_enter Try.func19, Try.ntmps19
        go_wp2_with fail
        refine (impl_IsSpot _ _ _).mono ?_
        rintro e w1 ⟨rfl, hb1⟩
        obtain ⟨hc1, hf1⟩ := bcell hb1
        have hz1 := bsize hb1
        (try simp only [World.size_alloc, World.size_setCell] at hz1)
        have k1_0_0 : w1.cell? ⟨w.heap.size, 0, none⟩ = some (.int .i64 a) := by rw [hc1 _ _ (by first | (simp; done) | omega | (simp; omega))]; first | assumption | (simp [go_sem]; done) | (simp [go_sem]; done) | (simp [go_sem, *]; done)
        have k1_0_1 : w1.cell? ⟨w.heap.size, 1, none⟩ = some (.int .i64 b) := by rw [hc1 _ _ (by first | (simp; done) | omega | (simp; omega))]; first | assumption | (simp [go_sem]; done) | (simp [go_sem]; done) | (simp [go_sem, *]; done)
        have s1_0 : w.heap.size < w1.heap.size := by omega
        have hB1 : Below w.heap.size w w1 := (by repeat (first | exact Below.refl _ _ | refine bl_alloc ?_ _ | refine bl_drewN ?_ _ | refine bl_trans (by assumption) ?_ | refine bl_set ?_ (by first | omega | (simp; done) | (simp; omega)) _))
        have HB1 := Lib.hid hB1
        clear hB1 hc1 hf1 hb1
        rw [h1]
        go_wp2_with fail
        refine (isWithinSpots_any _ _).mono ?_
        rintro e w' ⟨rfl, rfl⟩
        rw [h2]
        go_wp2_with fail
        refine (isWithinSpots_any _ _).mono ?_
        rintro e w' ⟨rfl, rfl⟩
        rw [h3]
        go_wp2
        all_goals (go_ret3; exact ⟨by simp [HT, HO.out], (by repeat (first | exact HB1.out | exact Below.refl _ _ | refine bl_alloc ?_ _ | refine bl_drewN ?_ _ | refine bl_trans (by assumption) ?_ | refine bl_set ?_ (by first | omega | (simp; done) | (simp; omega)) _))⟩)
    · have HO := Lib.hid (show okHT a b x p = false by simp only [okHT, inX, btw, h1, h2, h3, e1, decide_eq_false m1]; rfl)
      clear e1 e2
      go_enter Try.func19, Try.ntmps19
      go_wp2_with fail
      refine (impl_IsSpot _ _ _).mono ?_
      rintro e w1 ⟨rfl, hb1⟩
      obtain ⟨hc1, hf1⟩ := bcell hb1
      have hz1 := bsize hb1
      (try simp only [World.size_alloc, World.size_setCell] at hz1)
      have k1_0_0 : w1.cell? ⟨w.heap.size, 0, none⟩ = some (.int .i64 a) := by rw [hc1 _ _ (by first | (simp; done) | omega | (simp; omega))]; first | assumption | (simp [go_sem]; done) | (simp [go_sem]; done) | (simp [go_sem, *]; done)
      have k1_0_1 : w1.cell? ⟨w.heap.size, 1, none⟩ = some (.int .i64 b) := by rw [hc1 _ _ (by first | (simp; done) | omega | (simp; omega))]; first | assumption | (simp [go_sem]; done) | (simp [go_sem]; done) | (simp [go_sem, *]; done)
      have s1_0 : w.heap.size < w1.heap.size := by omega
      have hB1 : Below w.heap.size w w1 := (by repeat (first | exact Below.refl _ _ | refine bl_alloc ?_ _ | refine bl_drewN ?_ _ | refine bl_trans (by assumption) ?_ | refine bl_set ?_ (by first | omega | (simp; done) | (simp; omega)) _))
      have HB1 := Lib.hid hB1
      clear hB1 hc1 hf1 hb1
      rw [h1]
      go_wp2_with fail
      refine (isWithinSpots_any _ _).mono ?_
      rintro e w' ⟨rfl, rfl⟩
      rw [h2]
      go_wp2_with fail
      refine (isWithinSpots_any _ _).mono ?_
      rintro e w' ⟨rfl, rfl⟩
      rw [h3]
      go_wp2
      all_goals (go_ret3; exact ⟨by simp [HT, HO.out], (by repeat (first | exact HB1.out | exact Below.refl _ _ | refine bl_alloc ?_ _ | refine bl_drewN ?_ _ | refine bl_trans (by assumption) ?_ | refine bl_set ?_ (by first | omega | (simp; done) | (simp; omega)) _))⟩)
set_option maxRecDepth 100000 in
set_option maxHeartbeats 6000000 in
theorem spec_HeightForTouch (a b x p : Int) (w : World) :
    Calls Try.prog 28 #[.agg #[.int .i64 a, .int .i64 b], .int .i64 x, .int .i64 p] w fun e w' => e = .returned (.tuple #[.int .i64 (HT ln a b x p), .int .i64 (HT ld a b x p), .bool (okHT a b x p)]) ∧ Below w.heap.size w w' := by
  cases h1 : okSp a b
  · go_enter Try.func28, Try.ntmps28
    go_wp2_with fail
    refine (spec_lwSpot _ _ _).mono ?_
    rintro e w1 ⟨rfl, hb1⟩
    obtain ⟨hc1, hf1⟩ := bcell hb1
    have hz1 := bsize hb1
    (try simp only [World.size_alloc, World.size_setCell] at hz1)
    have k1_0_0 : w1.cell? ⟨w.heap.size, 0, none⟩ = some (.int .i64 a) := by rw [hc1 _ _ (by first | (simp; done) | omega | (simp; omega))]; first | assumption | (simp [go_sem]; done) | (simp [go_sem]; done) | (simp [go_sem, *]; done)
    have k1_0_1 : w1.cell? ⟨w.heap.size, 1, none⟩ = some (.int .i64 b) := by rw [hc1 _ _ (by first | (simp; done) | omega | (simp; omega))]; first | assumption | (simp [go_sem]; done) | (simp [go_sem]; done) | (simp [go_sem, *]; done)
    have s1_0 : w.heap.size < w1.heap.size := by omega
    have hB1 : Below w.heap.size w w1 := (by repeat (first | exact Below.refl _ _ | refine bl_alloc ?_ _ | refine bl_drewN ?_ _ | refine bl_trans (by assumption) ?_ | refine bl_set ?_ (by first | omega | (simp; done) | (simp; omega)) _))
    have HB1 := Lib.hid hB1
    clear hB1 hc1 hf1 hb1
    rw [h1]
    go_wp2
    go_ret3
    exact ⟨by simp [HT, okHT, inX, h1], (by repeat (first | exact HB1.out | exact Below.refl _ _ | refine bl_alloc ?_ _ | refine bl_drewN ?_ _ | refine bl_trans (by assumption) ?_ | refine bl_set ?_ (by first | omega | (simp; done) | (simp; omega)) _))⟩
  cases h2 : within x (-1000) 1000
  · go_enter Try.func28, Try.ntmps28
    go_wp2_with fail
    refine (spec_lwSpot _ _ _).mono ?_
    rintro e w1 ⟨rfl, hb1⟩
    obtain ⟨hc1, hf1⟩ := bcell hb1
    have hz1 := bsize hb1
    (try simp only [World.size_alloc, World.size_setCell] at hz1)
    have k1_0_0 : w1.cell? ⟨w.heap.size, 0, none⟩ = some (.int .i64 a) := by rw [hc1 _ _ (by first | (simp; done) | omega | (simp; omega))]; first | assumption | (simp [go_sem]; done) | (simp [go_sem]; done) | (simp [go_sem, *]; done)
    have k1_0_1 : w1.cell? ⟨w.heap.size, 1, none⟩ = some (.int .i64 b) := by rw [hc1 _ _ (by first | (simp; done) | omega | (simp; omega))]; first | assumption | (simp [go_sem]; done) | (simp [go_sem]; done) | (simp [go_sem, *]; done)
    have s1_0 : w.heap.size < w1.heap.size := by omega
    have hB1 : Below w.heap.size w w1 := (by repeat (first | exact Below.refl _ _ | refine bl_alloc ?_ _ | refine bl_drewN ?_ _ | refine bl_trans (by assumption) ?_ | refine bl_set ?_ (by first | omega | (simp; done) | (simp; omega)) _))
    have HB1 := Lib.hid hB1
    clear hB1 hc1 hf1 hb1
    rw [h1]
    go_wp2_with fail
    refine (l1In_any _ _ _ _).mono ?_
    rintro e w' ⟨rfl, rfl⟩
    rw [h2]
    go_wp2
    go_ret3
    exact ⟨by simp [HT, okHT, inX, h1, h2], (by repeat (first | exact HB1.out | exact Below.refl _ _ | refine bl_alloc ?_ _ | refine bl_drewN ?_ _ | refine bl_trans (by assumption) ?_ | refine bl_set ?_ (by first | omega | (simp; done) | (simp; omega)) _))⟩
  cases h3 : within p (-1000) 1000
  · go_enter Try.func28, Try.ntmps28
    go_wp2_with fail
    refine (spec_lwSpot _ _ _).mono ?_
    rintro e w1 ⟨rfl, hb1⟩
    obtain ⟨hc1, hf1⟩ := bcell hb1
    have hz1 := bsize hb1
    (try simp only [World.size_alloc, World.size_setCell] at hz1)
    have k1_0_0 : w1.cell? ⟨w.heap.size, 0, none⟩ = some (.int .i64 a) := by rw [hc1 _ _ (by first | (simp; done) | omega | (simp; omega))]; first | assumption | (simp [go_sem]; done) | (simp [go_sem]; done) | (simp [go_sem, *]; done)
    have k1_0_1 : w1.cell? ⟨w.heap.size, 1, none⟩ = some (.int .i64 b) := by rw [hc1 _ _ (by first | (simp; done) | omega | (simp; omega))]; first | assumption | (simp [go_sem]; done) | (simp [go_sem]; done) | (simp [go_sem, *]; done)
    have s1_0 : w.heap.size < w1.heap.size := by omega
    have hB1 : Below w.heap.size w w1 := (by repeat (first | exact Below.refl _ _ | refine bl_alloc ?_ _ | refine bl_drewN ?_ _ | refine bl_trans (by assumption) ?_ | refine bl_set ?_ (by first | omega | (simp; done) | (simp; omega)) _))
    have HB1 := Lib.hid hB1
    clear hB1 hc1 hf1 hb1
    rw [h1]
    go_wp2_with fail
    refine (l1In_any _ _ _ _).mono ?_
    rintro e w' ⟨rfl, rfl⟩
    rw [h2]
    go_wp2_with fail
    refine (l1In_any _ _ _ _).mono ?_
    rintro e w' ⟨rfl, rfl⟩
    rw [h3]
    go_wp2
    go_ret3
    exact ⟨by simp [HT, okHT, inX, h1, h2, h3], (by repeat (first | exact HB1.out | exact Below.refl _ _ | refine bl_alloc ?_ _ | refine bl_drewN ?_ _ | refine bl_trans (by assumption) ?_ | refine bl_set ?_ (by first | omega | (simp; done) | (simp; omega)) _))⟩
  obtain ⟨⟨a1, a2⟩, b1, b2⟩ := okSp_true h1
  obtain ⟨x1, x2⟩ := within_true h2
  obtain ⟨p1, p2⟩ := within_true h3
  have HB := Lib.hid (btw_iff a x p)
  obtain ⟨q1, q2⟩ := mul_abs (a := p - a) (b := x - p) (m := 2000) (k := 2000) (by omega) (by omega) (by omega) (by omega)
  by_cases m : (p - a) * (x - p) ≤ 0
  · have HO := Lib.hid (show okHT a b x p = false by unfold okHT; rw [HB.out, decide_eq_false (by omega), Bool.and_false])
    go_enter Try.func28, Try.ntmps28
    go_wp2_with fail
    refine (spec_lwSpot _ _ _).mono ?_
    rintro e w1 ⟨rfl, hb1⟩
    obtain ⟨hc1, hf1⟩ := bcell hb1
    have hz1 := bsize hb1
    (try simp only [World.size_alloc, World.size_setCell] at hz1)
    have k1_0_0 : w1.cell? ⟨w.heap.size, 0, none⟩ = some (.int .i64 a) := by rw [hc1 _ _ (by first | (simp; done) | omega | (simp; omega))]; first | assumption | (simp [go_sem]; done) | (simp [go_sem]; done) | (simp [go_sem, *]; done)
    have k1_0_1 : w1.cell? ⟨w.heap.size, 1, none⟩ = some (.int .i64 b) := by rw [hc1 _ _ (by first | (simp; done) | omega | (simp; omega))]; first | assumption | (simp [go_sem]; done) | (simp [go_sem]; done) | (simp [go_sem, *]; done)
    have s1_0 : w.heap.size < w1.heap.size := by omega
    have hB1 : Below w.heap.size w w1 := (by repeat (first | exact Below.refl _ _ | refine bl_alloc ?_ _ | refine bl_drewN ?_ _ | refine bl_trans (by assumption) ?_ | refine bl_set ?_ (by first | omega | (simp; done) | (simp; omega)) _))
    have HB1 := Lib.hid hB1
    clear hB1 hc1 hf1 hb1
    rw [h1]
    go_wp2_with fail
    refine (l1In_any _ _ _ _).mono ?_
    rintro e w' ⟨rfl, rfl⟩
    rw [h2]
    go_wp2_with fail
    refine (l1In_any _ _ _ _).mono ?_
    rintro e w' ⟨rfl, rfl⟩
    rw [h3]
    go_wp2
    go_ret3
    exact ⟨by simp [HT, HO.out], (by repeat (first | exact HB1.out | exact Below.refl _ _ | refine bl_alloc ?_ _ | refine bl_drewN ?_ _ | refine bl_trans (by assumption) ?_ | refine bl_set ?_ (by first | omega | (simp; done) | (simp; omega)) _))⟩
  · have HO := Lib.hid (show okHT a b x p = true by unfold okHT inX; rw [HB.out, h1, h2, h3, decide_eq_true (by omega)]; rfl)
    have HR1 := Lib.hid (show HT ln a b x p = ln (b * max (p - x) (x - p)) (max (a - p) (p - a)) by unfold HT; rw [HO.out]; rfl)
    have HR2 := Lib.hid (show HT ld a b x p = ld (b * max (p - x) (x - p)) (max (a - p) (p - a)) by unfold HT; rw [HO.out]; rfl)
    have g3 : 1 ≤ max (a - p) (p - a) := by
      by_cases c : a = p
      · subst c; rw [Int.sub_self, Int.zero_mul] at m; omega
      · omega
    have HD1 := fun W => Lib.hid (l1Abs_any (x - p) (by omega) (by omega) W)
    have HD2 := fun W => Lib.hid (l1Abs_any (p - a) (by omega) (by omega) W)
    rw [show max (x - p) (-(x - p)) = max (p - x) (x - p) by omega] at HD1
    rw [show max (p - a) (-(p - a)) = max (a - p) (p - a) by omega] at HD2
    have g1 : 0 ≤ max (p - x) (x - p) := by omega
    have g2 : max (p - x) (x - p) ≤ 2000 := by omega
    have g4 : max (a - p) (p - a) ≤ 2000 := by omega
    generalize max (p - x) (x - p) = D at *
    generalize max (a - p) (p - a) = E at *
    obtain ⟨f1, f2⟩ := mul_bd2 (a := b) (b := D) (m := 1000) (k := 2000) (by omega) g1 b2 g2
    have HTF := fun W => Lib.hid (clLow_any (b * D) E f1 (by omega) g3 (by omega) W)
    have n1 : IntKind.i64.wrap (x - p) = x - p := IntWalk.i64_in _ (by omega)
    have n2 : IntKind.i64.wrap (p - a) = p - a := IntWalk.i64_in _ (by omega)
    go_enter Try.func28, Try.ntmps28
    go_wp2_with fail
    refine (spec_lwSpot _ _ _).mono ?_
    rintro e w1 ⟨rfl, hb1⟩
    obtain ⟨hc1, hf1⟩ := bcell hb1
    have hz1 := bsize hb1
    (try simp only [World.size_alloc, World.size_setCell] at hz1)
    have k1_0_0 : w1.cell? ⟨w.heap.size, 0, none⟩ = some (.int .i64 a) := by rw [hc1 _ _ (by first | (simp; done) | omega | (simp; omega))]; first | assumption | (simp [go_sem]; done) | (simp [go_sem]; done) | (simp [go_sem, *]; done)
    have k1_0_1 : w1.cell? ⟨w.heap.size, 1, none⟩ = some (.int .i64 b) := by rw [hc1 _ _ (by first | (simp; done) | omega | (simp; omega))]; first | assumption | (simp [go_sem]; done) | (simp [go_sem]; done) | (simp [go_sem, *]; done)
    have s1_0 : w.heap.size < w1.heap.size := by omega
    have hB1 : Below w.heap.size w w1 := (by repeat (first | exact Below.refl _ _ | refine bl_alloc ?_ _ | refine bl_drewN ?_ _ | refine bl_trans (by assumption) ?_ | refine bl_set ?_ (by first | omega | (simp; done) | (simp; omega)) _))
    have HB1 := Lib.hid hB1
    clear hB1 hc1 hf1 hb1
    rw [h1]
    go_wp2_with fail
    refine (l1In_any _ _ _ _).mono ?_
    rintro e w' ⟨rfl, rfl⟩
    rw [h2]
    go_wp2_with fail
    refine (l1In_any _ _ _ _).mono ?_
    rintro e w' ⟨rfl, rfl⟩
    rw [h3]
    go_wp2_with fail
    go_quiet (first | (go_at_call 47; (try rw [n1]); exact quiet_eq (HD1 _).out) | (go_at_call 47; (try rw [n2]); exact quiet_eq (HD2 _).out) | (go_at_call 53; exact Calls.quiet_of (HTF _).out))
    go_wp2
    go_ret3
    exact ⟨by rw [HR1.out, HR2.out, HO.out]; rfl, (by repeat (first | exact HB1.out | exact Below.refl _ _ | refine bl_alloc ?_ _ | refine bl_drewN ?_ _ | refine bl_trans (by assumption) ?_ | refine bl_set ?_ (by first | omega | (simp; done) | (simp; omega)) _))⟩
end Go.Proofs.Ytbnkigponkelpaa

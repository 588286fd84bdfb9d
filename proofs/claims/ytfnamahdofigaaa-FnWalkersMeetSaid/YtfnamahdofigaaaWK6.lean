/- Chapter 6: two lamps, walkers that are turned, walkers in shadows; by the program and by the model alike. -/
import Derived.Test.YtfnamahdofigaaaWK4
import Derived.Deep.RegionHeld3
namespace Go.Proofs.Ytfnamahdofigaaa
open Go.RowKit
set_option linter.unusedVariables false
set_option linter.unusedSimpArgs false
def okTw (a l r h : Int) : Bool := within a 1 500 && (okM l && (okM r && within h 1 (min l r - 1)))
theorem okTw_true {a l r h : Int} (e : okTw a l r h = true) : (1 ≤ a ∧ a ≤ 500) ∧ (2 ≤ l ∧ l ≤ 200) ∧ (2 ≤ r ∧ r ≤ 200) ∧ 1 ≤ h ∧ h < l ∧ h < r := by
  simp only [okTw, Bool.and_eq_true] at e
  have := within_true e.2.2.2
  exact ⟨within_true e.1, okM_true e.2.1, okM_true e.2.2.1, by omega⟩
set_option maxHeartbeats 1000000 in
theorem isBetweenLamps_any (a l r h : Int) (w : World) :
    Calls Try.prog 44 #[.int .i64 a, .int .i64 l, .int .i64 r, .int .i64 h] w fun e w' => e = .returned (.bool (okTw a l r h)) ∧ w = w' := by
  cases h1 : within a 1 500
  · go_enter Try.func44, Try.ntmps44
    go_wp2_with (first | (go_at_call 34; refine (impl_isLamp _ _).mono ?_; rintro e w' ⟨rfl, rfl⟩) | (go_at_call 35; refine (isWithin_any _ _ _ _).mono ?_; rintro e w' ⟨rfl, rfl⟩))
    go_ret
    exact ⟨by simp [okTw, h1], rfl⟩
  cases h2 : okM l
  · go_enter Try.func44, Try.ntmps44
    go_wp2_with (first | (go_at_call 34; refine (impl_isLamp _ _).mono ?_; rintro e w' ⟨rfl, rfl⟩) | (go_at_call 35; refine (isWithin_any _ _ _ _).mono ?_; rintro e w' ⟨rfl, rfl⟩))
    go_ret
    exact ⟨by simp [okTw, h1, h2], rfl⟩
  cases h3 : okM r
  · go_enter Try.func44, Try.ntmps44
    go_wp2_with (first | (go_at_call 34; refine (impl_isLamp _ _).mono ?_; rintro e w' ⟨rfl, rfl⟩) | (go_at_call 35; refine (isWithin_any _ _ _ _).mono ?_; rintro e w' ⟨rfl, rfl⟩))
    go_ret
    exact ⟨by simp [okTw, h1, h2, h3], rfl⟩
  obtain ⟨l1, l2⟩ := okM_true h2
  obtain ⟨r1, r2⟩ := okM_true h3
  have HO := Lib.hid (show okTw a l r h = within h 1 (min l r - 1) by simp [okTw, h1, h2, h3])
  rcases Int.le_total l r with q | q
  · have HM := Lib.hid (show min l r = l by omega)
    rw [HM.out] at HO
    go_enter Try.func44, Try.ntmps44
    go_wp2_with (first | (go_at_call 34; refine (impl_isLamp _ _).mono ?_; rintro e w' ⟨rfl, rfl⟩) | (go_at_call 35; refine (isWithin_any _ _ _ _).mono ?_; rintro e w' ⟨rfl, rfl⟩))
    all_goals (go_ret; first | exact ⟨by rw [HO.out]; rfl, rfl⟩ | exact ⟨by rw [HO.out, show l = r by omega]; rfl, rfl⟩)
  · have HM := Lib.hid (show min l r = r by omega)
    rw [HM.out] at HO
    go_enter Try.func44, Try.ntmps44
    go_wp2_with (first | (go_at_call 34; refine (impl_isLamp _ _).mono ?_; rintro e w' ⟨rfl, rfl⟩) | (go_at_call 35; refine (isWithin_any _ _ _ _).mono ?_; rintro e w' ⟨rfl, rfl⟩))
    all_goals (go_ret; first | exact ⟨by rw [HO.out]; rfl, rfl⟩ | exact ⟨by rw [HO.out, show r = l by omega]; rfl, rfl⟩)
set_option maxHeartbeats 1000000 in
theorem wkTwo_any (a l r h : Int) (w : World) :
    Calls Try.prog 46 #[.int .i64 a, .int .i64 l, .int .i64 r, .int .i64 h] w fun e w' => e = .returned (.bool (okTw a l r h)) ∧ w = w' := by
  cases h1 : within a 1 500
  · go_enter Try.func46, Try.ntmps46
    go_wp2_with (first | (go_at_call 52; refine (spec_swLamp _ _).mono ?_; rintro e w' ⟨rfl, rfl⟩) | (go_at_call 47; refine (l1In_any _ _ _ _).mono ?_; rintro e w' ⟨rfl, rfl⟩) | (go_at_call 41; refine (l1Least_any _ _ _).mono ?_; rintro e w' ⟨rfl, rfl⟩))
    go_ret
    exact ⟨by simp [okTw, h1], rfl⟩
  cases h2 : okM l
  · go_enter Try.func46, Try.ntmps46
    go_wp2_with (first | (go_at_call 52; refine (spec_swLamp _ _).mono ?_; rintro e w' ⟨rfl, rfl⟩) | (go_at_call 47; refine (l1In_any _ _ _ _).mono ?_; rintro e w' ⟨rfl, rfl⟩) | (go_at_call 41; refine (l1Least_any _ _ _).mono ?_; rintro e w' ⟨rfl, rfl⟩))
    go_ret
    exact ⟨by simp [okTw, h1, h2], rfl⟩
  cases h3 : okM r
  · go_enter Try.func46, Try.ntmps46
    go_wp2_with (first | (go_at_call 52; refine (spec_swLamp _ _).mono ?_; rintro e w' ⟨rfl, rfl⟩) | (go_at_call 47; refine (l1In_any _ _ _ _).mono ?_; rintro e w' ⟨rfl, rfl⟩) | (go_at_call 41; refine (l1Least_any _ _ _).mono ?_; rintro e w' ⟨rfl, rfl⟩))
    go_ret
    exact ⟨by simp [okTw, h1, h2, h3], rfl⟩
  obtain ⟨l1, l2⟩ := okM_true h2
  obtain ⟨r1, r2⟩ := okM_true h3
  have HO := Lib.hid (show okTw a l r h = within h 1 (min l r - 1) by simp [okTw, h1, h2, h3])
  go_enter Try.func46, Try.ntmps46
  go_wp2_with (first | (go_at_call 52; refine (spec_swLamp _ _).mono ?_; rintro e w' ⟨rfl, rfl⟩) | (go_at_call 47; refine (l1In_any _ _ _ _).mono ?_; rintro e w' ⟨rfl, rfl⟩) | (go_at_call 41; refine (l1Least_any _ _ _).mono ?_; rintro e w' ⟨rfl, rfl⟩))
  go_ret
  exact ⟨by rw [HO.out]; rfl, rfl⟩
theorem sum_bd {a l r h x : Int} (e : okTw a l r h = true) (x0 : 0 ≤ x) (x1 : x ≤ a) : (0 ≤ x * (r - h) ∧ x * (r - h) ≤ 100000) ∧ (0 ≤ (a - x) * (l - h) ∧ (a - x) * (l - h) ≤ 100000) ∧ (0 ≤ h * (x * (r - h) + (a - x) * (l - h)) ∧ h * (x * (r - h) + (a - x) * (l - h)) ≤ 40000000) ∧ 1 ≤ (l - h) * (r - h) ∧ (l - h) * (r - h) ≤ 40000 := by
  obtain ⟨⟨a1, a2⟩, ⟨l1, l2⟩, ⟨r1, r2⟩, h1, h2, h3⟩ := okTw_true e
  have f1 := mul_bd2 (a := x) (b := r - h) (m := 500) (k := 200) (by omega) (by omega) (by omega) (by omega)
  have f2 := mul_bd2 (a := a - x) (b := l - h) (m := 500) (k := 200) (by omega) (by omega) (by omega) (by omega)
  have f3 := mul_bd2 (a := h) (b := x * (r - h) + (a - x) * (l - h)) (m := 200) (k := 200000) (by omega) (by omega) (by omega) (by omega)
  have f4 := mul_bd2 (a := l - h) (b := r - h) (m := 200) (k := 200) (by omega) (by omega) (by omega) (by omega)
  have f5 := Int.mul_le_mul (a := 1) (b := 1) (c := l - h) (d := r - h) (by omega) (by omega) (by omega) (by omega)
  omega
set_option maxHeartbeats 1000000 in
theorem impl_SumOfShadows (a l r x h : Int) (w : World) :
    Calls Try.prog 17 #[.int .i64 a, .int .i64 l, .int .i64 r, .int .i64 x, .int .i64 h] w fun e w' => e = .returned (.tuple #[.int .i64 (Z (okTw a l r h && within x 0 a) (ln (h * (x * (r - h) + (a - x) * (l - h))) ((l - h) * (r - h)))), .int .i64 (Z (okTw a l r h && within x 0 a) (ld (h * (x * (r - h) + (a - x) * (l - h))) ((l - h) * (r - h)))), .bool ((okTw a l r h && within x 0 a))]) ∧ Below w.heap.size w w' := by
  cases h1 : okTw a l r h
  · go_enter Try.func17, Try.ntmps17
    go_wp2_with fail
    refine (isBetweenLamps_any _ _ _ _ _).mono ?_
    rintro e w' ⟨rfl, rfl⟩
    rw [h1]
    go_wp2
    go_ret3
    exact ⟨by simp [Z], (by repeat (first | exact Below.refl _ _ | refine bl_alloc ?_ _ | refine bl_drewN ?_ _ | refine bl_trans (by assumption) ?_ | refine bl_set ?_ (by first | omega | (simp; done) | (simp; omega)) _))⟩
  cases h2 : within x 0 a
  · go_enter Try.func17, Try.ntmps17
    go_wp2_with fail
    refine (isBetweenLamps_any _ _ _ _ _).mono ?_
    rintro e w' ⟨rfl, rfl⟩
    rw [h1]
    go_wp2_with fail
    refine (isWithin_any _ _ _ _).mono ?_
    rintro e w' ⟨rfl, rfl⟩
    rw [h2]
    go_wp2
    go_ret3
    exact ⟨by simp [Z], (by repeat (first | exact Below.refl _ _ | refine bl_alloc ?_ _ | refine bl_drewN ?_ _ | refine bl_trans (by assumption) ?_ | refine bl_set ?_ (by first | omega | (simp; done) | (simp; omega)) _))⟩
  · obtain ⟨x0, x1⟩ := within_true h2
    obtain ⟨⟨f1, f2⟩, ⟨f3, f4⟩, ⟨f5, f6⟩, f7, f8⟩ := sum_bd h1 x0 x1
    obtain ⟨⟨a1, a2⟩, ⟨l1, l2⟩, ⟨r1, r2⟩, g1, g2, g3⟩ := okTw_true h1
    have HL := fun W => Lib.hid (toldFraction_any (h * (x * (r - h) + (a - x) * (l - h))) ((l - h) * (r - h)) f5 (by omega) f7 (by omega) W)
    generalize ln (h * (x * (r - h) + (a - x) * (l - h))) ((l - h) * (r - h)) = X at *
    generalize ld (h * (x * (r - h) + (a - x) * (l - h))) ((l - h) * (r - h)) = Y at *
    go_enter Try.func17, Try.ntmps17
    go_wp2_with fail
    refine (isBetweenLamps_any _ _ _ _ _).mono ?_
    rintro e w' ⟨rfl, rfl⟩
    rw [h1]
    go_wp2_with fail
    refine (isWithin_any _ _ _ _).mono ?_
    rintro e w' ⟨rfl, rfl⟩
    rw [h2]
    go_wp2_with fail
    (try go_quiet (fail))
    go_wp2_with fail
    refine ((HL _).out).mono ?_
    rintro e w' ⟨rfl, nn, rfl⟩
    go_wp2
    go_ret3
    exact ⟨rfl, (by repeat (first | exact Below.refl _ _ | refine bl_alloc ?_ _ | refine bl_drewN ?_ _ | refine bl_trans (by assumption) ?_ | refine bl_set ?_ (by first | omega | (simp; done) | (simp; omega)) _))⟩
set_option maxHeartbeats 1000000 in
theorem impl_ConstantSum (a l h : Int) (w : World) :
    Calls Try.prog 21 #[.int .i64 a, .int .i64 l, .int .i64 h] w fun e w' => e = .returned (.tuple #[.int .i64 (Z (okTw a l l h && within 0 0 a) (ln (h * (0 * (l - h) + (a - 0) * (l - h))) ((l - h) * (l - h)))), .int .i64 (Z (okTw a l l h && within 0 0 a) (ld (h * (0 * (l - h) + (a - 0) * (l - h))) ((l - h) * (l - h)))), .bool ((okTw a l l h && within 0 0 a))]) ∧ Below w.heap.size w w' := by
  have HM := fun W => Lib.hid (impl_SumOfShadows a l l 0 h W)
  generalize ln (h * (0 * (l - h) + (a - 0) * (l - h))) ((l - h) * (l - h)) = X at *
  generalize ld (h * (0 * (l - h) + (a - 0) * (l - h))) ((l - h) * (l - h)) = Y at *
  go_enter Try.func21, Try.ntmps21
  go_wp2_with fail
  refine ((HM _).out).mono ?_
  rintro e w1 ⟨rfl, hbw1⟩
  obtain ⟨hcw1, hfw1⟩ := bcell hbw1
  have hzw1 := bsize hbw1
  (try simp only [World.size_alloc, World.size_setCell] at hzw1)
  have hBw1 : Below w.heap.size w w1 := (by repeat (first | exact Below.refl _ _ | refine bl_alloc ?_ _ | refine bl_drewN ?_ _ | refine bl_trans (by assumption) ?_ | refine bl_set ?_ (by first | omega | (simp; done) | (simp; omega)) _))
  have HBw1 := Lib.hid hBw1
  clear hBw1 hcw1 hfw1 hbw1
  go_wp2
  go_ret3
  exact ⟨rfl, (by repeat (first | exact HBw1.out | exact Below.refl _ _ | refine bl_alloc ?_ _ | refine bl_drewN ?_ _ | refine bl_trans (by assumption) ?_ | refine bl_set ?_ (by first | omega | (simp; done) | (simp; omega)) _))⟩
set_option maxHeartbeats 1000000 in
theorem impl_EqualPlace (a l r h : Int) (w : World) :
    Calls Try.prog 19 #[.int .i64 a, .int .i64 l, .int .i64 r, .int .i64 h] w fun e w' => e = .returned (.tuple #[.int .i64 (Z (okTw a l r h) (ln (a * (l - h)) ((l - h) + (r - h)))), .int .i64 (Z (okTw a l r h) (ld (a * (l - h)) ((l - h) + (r - h)))), .bool (okTw a l r h)]) ∧ Below w.heap.size w w' := by
  cases h1 : okTw a l r h
  · go_enter Try.func19, Try.ntmps19
    go_wp2_with fail
    refine (isBetweenLamps_any _ _ _ _ _).mono ?_
    rintro e w' ⟨rfl, rfl⟩
    rw [h1]
    go_wp2
    go_ret3
    exact ⟨by simp [Z], (by repeat (first | exact Below.refl _ _ | refine bl_alloc ?_ _ | refine bl_drewN ?_ _ | refine bl_trans (by assumption) ?_ | refine bl_set ?_ (by first | omega | (simp; done) | (simp; omega)) _))⟩
  · obtain ⟨⟨a1, a2⟩, ⟨l1, l2⟩, ⟨r1, r2⟩, g1, g2, g3⟩ := okTw_true h1
    obtain ⟨f1, f2⟩ := mul_bd2 (a := a) (b := l - h) (m := 500) (k := 200) (by omega) (by omega) (by omega) (by omega)
    have HL := fun W => Lib.hid (toldFraction_any (a * (l - h)) ((l - h) + (r - h)) f1 (by omega) (by omega) (by omega) W)
    generalize ln (a * (l - h)) ((l - h) + (r - h)) = X at *
    generalize ld (a * (l - h)) ((l - h) + (r - h)) = Y at *
    
    go_enter Try.func19, Try.ntmps19
    go_wp2_with fail
    refine (isBetweenLamps_any _ _ _ _ _).mono ?_
    rintro e w' ⟨rfl, rfl⟩
    rw [h1]
    go_wp2_with fail
    (try go_quiet (fail))
    go_wp2_with fail
    refine ((HL _).out).mono ?_
    rintro e w' ⟨rfl, nn, rfl⟩
    go_wp2
    go_ret3
    exact ⟨rfl, (by repeat (first | exact Below.refl _ _ | refine bl_alloc ?_ _ | refine bl_drewN ?_ _ | refine bl_trans (by assumption) ?_ | refine bl_set ?_ (by first | omega | (simp; done) | (simp; omega)) _))⟩
set_option maxHeartbeats 1000000 in
theorem spec_SumOfShadows (a l r x h : Int) (w : World) :
    Calls Try.prog 18 #[.int .i64 a, .int .i64 l, .int .i64 r, .int .i64 x, .int .i64 h] w fun e w' => e = .returned (.tuple #[.int .i64 (Z (okTw a l r h && within x 0 a) (ln (h * (x * (r - h) + (a - x) * (l - h))) ((l - h) * (r - h)))), .int .i64 (Z (okTw a l r h && within x 0 a) (ld (h * (x * (r - h) + (a - x) * (l - h))) ((l - h) * (r - h)))), .bool ((okTw a l r h && within x 0 a))]) ∧ Below w.heap.size w w' := by
  cases h1 : okTw a l r h
  · go_enter Try.func18, Try.ntmps18
    go_wp2_with fail
    refine (wkTwo_any _ _ _ _ _).mono ?_
    rintro e w' ⟨rfl, rfl⟩
    rw [h1]
    go_wp2
    go_ret3
    exact ⟨by simp [Z], (by repeat (first | exact Below.refl _ _ | refine bl_alloc ?_ _ | refine bl_drewN ?_ _ | refine bl_trans (by assumption) ?_ | refine bl_set ?_ (by first | omega | (simp; done) | (simp; omega)) _))⟩
  cases h2 : within x 0 a
  · go_enter Try.func18, Try.ntmps18
    go_wp2_with fail
    refine (wkTwo_any _ _ _ _ _).mono ?_
    rintro e w' ⟨rfl, rfl⟩
    rw [h1]
    go_wp2_with fail
    refine (l1In_any _ _ _ _).mono ?_
    rintro e w' ⟨rfl, rfl⟩
    rw [h2]
    go_wp2
    go_ret3
    exact ⟨by simp [Z], (by repeat (first | exact Below.refl _ _ | refine bl_alloc ?_ _ | refine bl_drewN ?_ _ | refine bl_trans (by assumption) ?_ | refine bl_set ?_ (by first | omega | (simp; done) | (simp; omega)) _))⟩
  · obtain ⟨x0, x1⟩ := within_true h2
    obtain ⟨⟨f1, f2⟩, ⟨f3, f4⟩, ⟨f5, f6⟩, f7, f8⟩ := sum_bd h1 x0 x1
    obtain ⟨⟨a1, a2⟩, ⟨l1, l2⟩, ⟨r1, r2⟩, g1, g2, g3⟩ := okTw_true h1
    have HL := fun W => Lib.hid (clLow_any (h * (x * (r - h) + (a - x) * (l - h))) ((l - h) * (r - h)) f5 (by omega) f7 (by omega) W)
    generalize ln (h * (x * (r - h) + (a - x) * (l - h))) ((l - h) * (r - h)) = X at *
    generalize ld (h * (x * (r - h) + (a - x) * (l - h))) ((l - h) * (r - h)) = Y at *
    go_enter Try.func18, Try.ntmps18
    go_wp2_with fail
    refine (wkTwo_any _ _ _ _ _).mono ?_
    rintro e w' ⟨rfl, rfl⟩
    rw [h1]
    go_wp2_with fail
    refine (l1In_any _ _ _ _).mono ?_
    rintro e w' ⟨rfl, rfl⟩
    rw [h2]
    go_wp2_with fail
    (try go_quiet (fail))
    go_wp2_with fail
    refine ((HL _).out).mono ?_
    rintro e w' ⟨rfl, nn, rfl⟩
    go_wp2
    go_ret3
    exact ⟨rfl, (by repeat (first | exact Below.refl _ _ | refine bl_alloc ?_ _ | refine bl_drewN ?_ _ | refine bl_trans (by assumption) ?_ | refine bl_set ?_ (by first | omega | (simp; done) | (simp; omega)) _))⟩
set_option maxHeartbeats 1000000 in
theorem spec_ConstantSum (a l h : Int) (w : World) :
    Calls Try.prog 22 #[.int .i64 a, .int .i64 l, .int .i64 h] w fun e w' => e = .returned (.tuple #[.int .i64 (Z (okTw a l l h && within 0 0 a) (ln (h * (0 * (l - h) + (a - 0) * (l - h))) ((l - h) * (l - h)))), .int .i64 (Z (okTw a l l h && within 0 0 a) (ld (h * (0 * (l - h) + (a - 0) * (l - h))) ((l - h) * (l - h)))), .bool ((okTw a l l h && within 0 0 a))]) ∧ Below w.heap.size w w' := by
  have HM := fun W => Lib.hid (spec_SumOfShadows a l l 0 h W)
  generalize ln (h * (0 * (l - h) + (a - 0) * (l - h))) ((l - h) * (l - h)) = X at *
  generalize ld (h * (0 * (l - h) + (a - 0) * (l - h))) ((l - h) * (l - h)) = Y at *
  go_enter Try.func22, Try.ntmps22
  go_wp2_with fail
  refine ((HM _).out).mono ?_
  rintro e w1 ⟨rfl, hbw1⟩
  obtain ⟨hcw1, hfw1⟩ := bcell hbw1
  have hzw1 := bsize hbw1
  (try simp only [World.size_alloc, World.size_setCell] at hzw1)
  have hBw1 : Below w.heap.size w w1 := (by repeat (first | exact Below.refl _ _ | refine bl_alloc ?_ _ | refine bl_drewN ?_ _ | refine bl_trans (by assumption) ?_ | refine bl_set ?_ (by first | omega | (simp; done) | (simp; omega)) _))
  have HBw1 := Lib.hid hBw1
  clear hBw1 hcw1 hfw1 hbw1
  go_wp2
  go_ret3
  exact ⟨rfl, (by repeat (first | exact HBw1.out | exact Below.refl _ _ | refine bl_alloc ?_ _ | refine bl_drewN ?_ _ | refine bl_trans (by assumption) ?_ | refine bl_set ?_ (by first | omega | (simp; done) | (simp; omega)) _))⟩
set_option maxHeartbeats 1000000 in
theorem spec_EqualPlace (a l r h : Int) (w : World) :
    Calls Try.prog 20 #[.int .i64 a, .int .i64 l, .int .i64 r, .int .i64 h] w fun e w' => e = .returned (.tuple #[.int .i64 (Z (okTw a l r h) (ln (a * (l - h)) ((l - h) + (r - h)))), .int .i64 (Z (okTw a l r h) (ld (a * (l - h)) ((l - h) + (r - h)))), .bool (okTw a l r h)]) ∧ Below w.heap.size w w' := by
  cases h1 : okTw a l r h
  · go_enter Try.func20, Try.ntmps20
    go_wp2_with fail
    refine (wkTwo_any _ _ _ _ _).mono ?_
    rintro e w' ⟨rfl, rfl⟩
    rw [h1]
    go_wp2
    go_ret3
    exact ⟨by simp [Z], (by repeat (first | exact Below.refl _ _ | refine bl_alloc ?_ _ | refine bl_drewN ?_ _ | refine bl_trans (by assumption) ?_ | refine bl_set ?_ (by first | omega | (simp; done) | (simp; omega)) _))⟩
  · obtain ⟨⟨a1, a2⟩, ⟨l1, l2⟩, ⟨r1, r2⟩, g1, g2, g3⟩ := okTw_true h1
    obtain ⟨f1, f2⟩ := mul_bd2 (a := a) (b := l - h) (m := 500) (k := 200) (by omega) (by omega) (by omega) (by omega)
    have HL := fun W => Lib.hid (clLow_any (a * (l - h)) ((l - h) + (r - h)) f1 (by omega) (by omega) (by omega) W)
    generalize ln (a * (l - h)) ((l - h) + (r - h)) = X at *
    generalize ld (a * (l - h)) ((l - h) + (r - h)) = Y at *
    rw [show l - h + (r - h) = l + r - 2 * h by omega] at HL
    go_enter Try.func20, Try.ntmps20
    go_wp2_with fail
    refine (wkTwo_any _ _ _ _ _).mono ?_
    rintro e w' ⟨rfl, rfl⟩
    rw [h1]
    go_wp2_with fail
    (try go_quiet (fail))
    go_wp2_with fail
    refine ((HL _).out).mono ?_
    rintro e w' ⟨rfl, nn, rfl⟩
    go_wp2
    go_ret3
    exact ⟨rfl, (by repeat (first | exact Below.refl _ _ | refine bl_alloc ?_ _ | refine bl_drewN ?_ _ | refine bl_trans (by assumption) ?_ | refine bl_set ?_ (by first | omega | (simp; done) | (simp; omega)) _))⟩
theorem line_wide {l b a c : Int} (l1 : 2 ≤ l) (l2 : l ≤ 200) (b1 : 1 ≤ b) (b2 : b < l) (a1 : 0 ≤ a) (a2 : a ≤ 3500) (c1 : 0 ≤ c) (c2 : c ≤ 3500) : (0 ≤ l * a ∧ l * a ≤ 700000) ∧ (0 ≤ (l - b) * c ∧ (l - b) * c ≤ 700000) := by
  have := mul_bd2 (a := l) (b := a) (m := 200) (k := 3500) (by omega) (by omega) (by omega) (by omega)
  have := mul_bd2 (a := l - b) (b := c) (m := 200) (k := 3500) (by omega) (by omega) (by omega) (by omega)
  omega
def CLA (w w' : World) (a b c d : Int) : Prop := w'.cell? ⟨w.heap.size, 0, none⟩ = some (.int .i64 a) ∧ w'.cell? ⟨w.heap.size, 1, none⟩ = some (.int .i64 b) ∧ w'.cell? ⟨w.heap.size + 1, 0, none⟩ = some (.int .i64 c) ∧ w'.cell? ⟨w.heap.size + 1, 1, none⟩ = some (.int .i64 d) ∧ w.heap.size + 1 < w'.heap.size ∧ Below w.heap.size w w'
theorem S4_after {w u v : World} {x y z t : Value} (hb : Below u.heap.size u v) (h : u.cell? ⟨w.heap.size, 0, none⟩ = some x ∧ u.cell? ⟨w.heap.size, 1, none⟩ = some y ∧ u.cell? ⟨w.heap.size + 1, 0, none⟩ = some z ∧ u.cell? ⟨w.heap.size + 1, 1, none⟩ = some t ∧ w.heap.size + 1 < u.heap.size ∧ Below w.heap.size w u) :
    v.cell? ⟨w.heap.size, 0, none⟩ = some x ∧ v.cell? ⟨w.heap.size, 1, none⟩ = some y ∧ v.cell? ⟨w.heap.size + 1, 0, none⟩ = some z ∧ v.cell? ⟨w.heap.size + 1, 1, none⟩ = some t ∧ w.heap.size + 1 < v.heap.size ∧ Below w.heap.size w v :=
  ⟨cell_after hb (by omega) h.1, cell_after hb (by omega) h.2.1, cell_after hb (by omega) h.2.2.1, cell_after hb (by omega) h.2.2.2.1, size_after hb h.2.2.2.2.1, bl_trans hb h.2.2.2.2.2⟩
set_option maxHeartbeats 1000000 in
theorem lineWide_any (l a b c : Int) (l1 : 2 ≤ l) (l2 : l ≤ 200) (b1 : 1 ≤ b) (b2 : b < l) (a1 : 0 ≤ a) (a2 : a ≤ 3500) (c1 : 0 ≤ c) (c2 : c ≤ 3500) (w : World) :
    Calls Try.prog 53 #[.int .i64 l, .agg #[.int .i64 a, .int .i64 b], .int .i64 c] w fun e w' => e = .returned (.int .i64 (line l a b c)) ∧ Below w.heap.size w w' := by
  obtain ⟨⟨f1, f2⟩, f3, f4⟩ := line_wide l1 l2 b1 b2 a1 a2 c1 c2
  have e0 := Lib.hid (show line l a b c = l * a - (l - b) * c from rfl)
  go_enter Try.func53, Try.ntmps53
  go_wp2
  go_ret
  exact ⟨ret_int e0.out.symm, (by repeat (first | exact Below.refl _ _ | refine bl_alloc ?_ _ | refine bl_drewN ?_ _ | refine bl_trans (by assumption) ?_ | refine bl_set ?_ (by first | omega | (simp; done) | (simp; omega)) _))⟩
set_option maxHeartbeats 400000 in
theorem hidesWide_any (l a b c d : Int) (l1 : 2 ≤ l) (l2 : l ≤ 200) (b1 : 1 ≤ b) (b2 : b < l) (a1 : 0 ≤ a) (a2 : a ≤ 3500) (c1 : 0 ≤ c) (c2 : c ≤ 3500) (d1 : 1 ≤ d) (d2 : d ≤ 200) (w : World) :
    Calls Try.prog 37 #[.int .i64 l, .agg #[.int .i64 a, .int .i64 b], .agg #[.int .i64 c, .int .i64 d]] w fun e w' => e = .returned (.bool (hid_ l a b c d)) ∧ Below w.heap.size w w' := by
  obtain ⟨f1, f2⟩ := mul_bd2 (a := d) (b := a) (m := 200) (k := 3500) (by omega) (by omega) (by omega) (by omega)
  obtain ⟨⟨f3, f4⟩, f5, f6⟩ := line_wide l1 l2 b1 b2 a1 a2 c1 c2
  have WR := Lib.hid (show IntKind.i64.wrap (d * a) = d * a from IntWalk.i64_in _ (by omega))
  have HLW := fun W => Lib.hid (lineWide_any l a b c l1 l2 b1 b2 a1 a2 c1 c2 W)
  by_cases m : a < c
  · have MM := Lib.hid m
    by_cases n : d * a ≤ line l a b c
    all_goals
      have NN := Lib.hid n
      go_enter Try.func37, Try.ntmps37
      go_wp2_with fail
      have hS : CLA w ((w.alloc (.cells #[.int .i64 a, .int .i64 b] 65)).alloc (.cells #[.int .i64 c, .int .i64 d] 65)) a b c d := ⟨by simp, by simp, by simp, by simp, by simp, (by repeat (first | exact Below.refl _ _ | refine bl_alloc ?_ _ | refine bl_drewN ?_ _ | refine bl_trans (by assumption) ?_ | refine bl_set ?_ (by first | omega | (simp; done) | (simp; omega)) _))⟩
      unfold CLA at hS
      go_region_held3 (fun w' => w'.cell? ⟨w.heap.size, 0, none⟩ = some (.int .i64 a) ∧ w'.cell? ⟨w.heap.size, 1, none⟩ = some (.int .i64 b) ∧ w'.cell? ⟨w.heap.size + 1, 0, none⟩ = some (.int .i64 c) ∧ w'.cell? ⟨w.heap.size + 1, 1, none⟩ = some (.int .i64 d) ∧ w.heap.size + 1 < w'.heap.size ∧ Below w.heap.size w w') (first | exact S4_after hb2 (by assumption) | exact S4_after (below_drewN (Below.refl _ _) _) (by assumption) | exact S4_after (Below.drew (Below.refl _ _)) (by assumption) | assumption) (first | (go_at_call 53; refine ((HLW _).out).mono ?_; rintro e w2 ⟨rfl, hb2⟩) | fail)
      go_wp2
      go_ret
      exact ⟨by simp [hid_, MM.out, NN.out, WR.out], (by repeat (first | exact Below.refl _ _ | refine bl_alloc ?_ _ | refine bl_drewN ?_ _ | refine bl_trans (by assumption) ?_ | refine bl_set ?_ (by first | omega | (simp; done) | (simp; omega)) _))⟩
  · have EE := Lib.hid (show hid_ l a b c d = false by unfold hid_; rw [decide_eq_false m]; rfl)
    have hd : decide (a < c) = false := decide_eq_false m
    all_goals
      go_enter Try.func37, Try.ntmps37
      go_wp2_with fail
      go_quiet (fail)
      go_wp2
      go_ret
      exact ⟨by simp [EE.out], (by repeat (first | exact Below.refl _ _ | refine bl_alloc ?_ _ | refine bl_drewN ?_ _ | refine bl_trans (by assumption) ?_ | refine bl_set ?_ (by first | omega | (simp; done) | (simp; omega)) _))⟩
set_option maxHeartbeats 2000000 in
theorem impl_IsInShadow (l h p s j q t m : Int) (w : World) :
    Calls Try.prog 14 #[.int .i64 l, .agg #[.int .i64 h, .int .i64 p, .int .i64 s], .agg #[.int .i64 j, .int .i64 q, .int .i64 t], .int .i64 m] w fun e w' => e = .returned (.tuple #[.bool ((okAt l h p s m && okAt l j q t m) && hid_ l (p + s * m) h (q + t * m) j), .bool (okAt l h p s m && okAt l j q t m)]) ∧ Below w.heap.size w w' := by
  have HA := fun W => Lib.hid (impl_PlaceAt l h p s m W)
  have HB := fun W => Lib.hid (impl_PlaceAt l j q t m W)
  cases ha : okAt l h p s m
  · rw [ha, show Z false (p + s * m) = 0 from rfl] at HA
    generalize Z (okAt l j q t m) (q + t * m) = y at *
    generalize okAt l j q t m = B at *
    go_enter Try.func14, Try.ntmps14
    go_wp2_with fail
    refine ((HA _).out).mono ?_
    rintro e w1 ⟨rfl, hbw1⟩
    obtain ⟨hcw1, hfw1⟩ := bcell hbw1
    have hzw1 := bsize hbw1
    (try simp only [World.size_alloc, World.size_setCell] at hzw1)
    have kw1_0_0 : w1.cell? ⟨w.heap.size, 0, none⟩ = some (.int .i64 h) := by rw [hcw1 _ _ (by first | (simp; done) | omega | (simp; omega))]; first | assumption | (simp [go_sem]; done) | (simp [go_sem]; done) | (simp [go_sem, *]; done)
    have kw1_0_1 : w1.cell? ⟨w.heap.size, 1, none⟩ = some (.int .i64 p) := by rw [hcw1 _ _ (by first | (simp; done) | omega | (simp; omega))]; first | assumption | (simp [go_sem]; done) | (simp [go_sem]; done) | (simp [go_sem, *]; done)
    have kw1_0_2 : w1.cell? ⟨w.heap.size, 2, none⟩ = some (.int .i64 s) := by rw [hcw1 _ _ (by first | (simp; done) | omega | (simp; omega))]; first | assumption | (simp [go_sem]; done) | (simp [go_sem]; done) | (simp [go_sem, *]; done)
    have sw1_0 : w.heap.size < w1.heap.size := by first | omega | (simp at *; omega)
    have kw1_1_0 : w1.cell? ⟨w.heap.size + 1, 0, none⟩ = some (.int .i64 j) := by rw [hcw1 _ _ (by first | (simp; done) | omega | (simp; omega))]; first | assumption | (simp [go_sem]; done) | (simp [go_sem]; done) | (simp [go_sem, *]; done)
    have kw1_1_1 : w1.cell? ⟨w.heap.size + 1, 1, none⟩ = some (.int .i64 q) := by rw [hcw1 _ _ (by first | (simp; done) | omega | (simp; omega))]; first | assumption | (simp [go_sem]; done) | (simp [go_sem]; done) | (simp [go_sem, *]; done)
    have kw1_1_2 : w1.cell? ⟨w.heap.size + 1, 2, none⟩ = some (.int .i64 t) := by rw [hcw1 _ _ (by first | (simp; done) | omega | (simp; omega))]; first | assumption | (simp [go_sem]; done) | (simp [go_sem]; done) | (simp [go_sem, *]; done)
    have sw1_1 : w.heap.size + 1 < w1.heap.size := by first | omega | (simp at *; omega)
    have hBw1 : Below w.heap.size w w1 := (by repeat (first | exact Below.refl _ _ | refine bl_alloc ?_ _ | refine bl_drewN ?_ _ | refine bl_trans (by assumption) ?_ | refine bl_set ?_ (by first | omega | (simp; done) | (simp; omega)) _))
    have HBw1 := Lib.hid hBw1
    clear hBw1 hcw1 hfw1 hbw1
    go_wp2_with fail
    refine ((HB _).out).mono ?_
    rintro e w2 ⟨rfl, hbw2⟩
    obtain ⟨hcw2, hfw2⟩ := bcell hbw2
    have hzw2 := bsize hbw2
    (try simp only [World.size_alloc, World.size_setCell] at hzw2)
    have hkw2 : Below w1.heap.size w1 w2 := (by repeat (first | exact Below.refl _ _ | refine bl_alloc ?_ _ | refine bl_drewN ?_ _ | refine bl_trans (by assumption) ?_ | refine bl_set ?_ (by first | omega | (simp; done) | (simp; omega)) _))
    have kw2_0_0 : w2.cell? ⟨w.heap.size, 0, none⟩ = some (.int .i64 h) := cell_after hkw2 sw1_0 kw1_0_0
    have kw2_0_1 : w2.cell? ⟨w.heap.size, 1, none⟩ = some (.int .i64 p) := cell_after hkw2 sw1_0 kw1_0_1
    have kw2_0_2 : w2.cell? ⟨w.heap.size, 2, none⟩ = some (.int .i64 s) := cell_after hkw2 sw1_0 kw1_0_2
    have sw2_0 : w.heap.size < w2.heap.size := size_after hkw2 sw1_0
    have kw2_1_0 : w2.cell? ⟨w.heap.size + 1, 0, none⟩ = some (.int .i64 j) := cell_after hkw2 sw1_1 kw1_1_0
    have kw2_1_1 : w2.cell? ⟨w.heap.size + 1, 1, none⟩ = some (.int .i64 q) := cell_after hkw2 sw1_1 kw1_1_1
    have kw2_1_2 : w2.cell? ⟨w.heap.size + 1, 2, none⟩ = some (.int .i64 t) := cell_after hkw2 sw1_1 kw1_1_2
    have sw2_1 : w.heap.size + 1 < w2.heap.size := size_after hkw2 sw1_1
    have hBw2 : Below w.heap.size w w2 := (by repeat (first | exact HBw1.out | exact Below.refl _ _ | refine bl_alloc ?_ _ | refine bl_drewN ?_ _ | refine bl_trans (by assumption) ?_ | refine bl_set ?_ (by first | omega | (simp; done) | (simp; omega)) _))
    have HBw2 := Lib.hid hBw2
    clear hBw2 hcw2 hfw2 hbw2 hkw2 kw1_0_0 kw1_0_1 kw1_0_2 sw1_0 kw1_1_0 kw1_1_1 kw1_1_2 sw1_1
    go_wp2
    go_ret2
    exact ⟨by simp, (by repeat (first | exact HBw2.out | exact Below.refl _ _ | refine bl_alloc ?_ _ | refine bl_drewN ?_ _ | refine bl_trans (by assumption) ?_ | refine bl_set ?_ (by first | omega | (simp; done) | (simp; omega)) _))⟩
  cases hb : okAt l j q t m
  · rw [hb, show Z false (q + t * m) = 0 from rfl] at HB
    rw [ha] at HA
    generalize Z true (p + s * m) = x at *
    go_enter Try.func14, Try.ntmps14
    go_wp2_with fail
    refine ((HA _).out).mono ?_
    rintro e w1 ⟨rfl, hbw1⟩
    obtain ⟨hcw1, hfw1⟩ := bcell hbw1
    have hzw1 := bsize hbw1
    (try simp only [World.size_alloc, World.size_setCell] at hzw1)
    have kw1_0_0 : w1.cell? ⟨w.heap.size, 0, none⟩ = some (.int .i64 h) := by rw [hcw1 _ _ (by first | (simp; done) | omega | (simp; omega))]; first | assumption | (simp [go_sem]; done) | (simp [go_sem]; done) | (simp [go_sem, *]; done)
    have kw1_0_1 : w1.cell? ⟨w.heap.size, 1, none⟩ = some (.int .i64 p) := by rw [hcw1 _ _ (by first | (simp; done) | omega | (simp; omega))]; first | assumption | (simp [go_sem]; done) | (simp [go_sem]; done) | (simp [go_sem, *]; done)
    have kw1_0_2 : w1.cell? ⟨w.heap.size, 2, none⟩ = some (.int .i64 s) := by rw [hcw1 _ _ (by first | (simp; done) | omega | (simp; omega))]; first | assumption | (simp [go_sem]; done) | (simp [go_sem]; done) | (simp [go_sem, *]; done)
    have sw1_0 : w.heap.size < w1.heap.size := by first | omega | (simp at *; omega)
    have kw1_1_0 : w1.cell? ⟨w.heap.size + 1, 0, none⟩ = some (.int .i64 j) := by rw [hcw1 _ _ (by first | (simp; done) | omega | (simp; omega))]; first | assumption | (simp [go_sem]; done) | (simp [go_sem]; done) | (simp [go_sem, *]; done)
    have kw1_1_1 : w1.cell? ⟨w.heap.size + 1, 1, none⟩ = some (.int .i64 q) := by rw [hcw1 _ _ (by first | (simp; done) | omega | (simp; omega))]; first | assumption | (simp [go_sem]; done) | (simp [go_sem]; done) | (simp [go_sem, *]; done)
    have kw1_1_2 : w1.cell? ⟨w.heap.size + 1, 2, none⟩ = some (.int .i64 t) := by rw [hcw1 _ _ (by first | (simp; done) | omega | (simp; omega))]; first | assumption | (simp [go_sem]; done) | (simp [go_sem]; done) | (simp [go_sem, *]; done)
    have sw1_1 : w.heap.size + 1 < w1.heap.size := by first | omega | (simp at *; omega)
    have hBw1 : Below w.heap.size w w1 := (by repeat (first | exact Below.refl _ _ | refine bl_alloc ?_ _ | refine bl_drewN ?_ _ | refine bl_trans (by assumption) ?_ | refine bl_set ?_ (by first | omega | (simp; done) | (simp; omega)) _))
    have HBw1 := Lib.hid hBw1
    clear hBw1 hcw1 hfw1 hbw1
    go_wp2_with fail
    refine ((HB _).out).mono ?_
    rintro e w2 ⟨rfl, hbw2⟩
    obtain ⟨hcw2, hfw2⟩ := bcell hbw2
    have hzw2 := bsize hbw2
    (try simp only [World.size_alloc, World.size_setCell] at hzw2)
    have hkw2 : Below w1.heap.size w1 w2 := (by repeat (first | exact Below.refl _ _ | refine bl_alloc ?_ _ | refine bl_drewN ?_ _ | refine bl_trans (by assumption) ?_ | refine bl_set ?_ (by first | omega | (simp; done) | (simp; omega)) _))
    have kw2_0_0 : w2.cell? ⟨w.heap.size, 0, none⟩ = some (.int .i64 h) := cell_after hkw2 sw1_0 kw1_0_0
    have kw2_0_1 : w2.cell? ⟨w.heap.size, 1, none⟩ = some (.int .i64 p) := cell_after hkw2 sw1_0 kw1_0_1
    have kw2_0_2 : w2.cell? ⟨w.heap.size, 2, none⟩ = some (.int .i64 s) := cell_after hkw2 sw1_0 kw1_0_2
    have sw2_0 : w.heap.size < w2.heap.size := size_after hkw2 sw1_0
    have kw2_1_0 : w2.cell? ⟨w.heap.size + 1, 0, none⟩ = some (.int .i64 j) := cell_after hkw2 sw1_1 kw1_1_0
    have kw2_1_1 : w2.cell? ⟨w.heap.size + 1, 1, none⟩ = some (.int .i64 q) := cell_after hkw2 sw1_1 kw1_1_1
    have kw2_1_2 : w2.cell? ⟨w.heap.size + 1, 2, none⟩ = some (.int .i64 t) := cell_after hkw2 sw1_1 kw1_1_2
    have sw2_1 : w.heap.size + 1 < w2.heap.size := size_after hkw2 sw1_1
    have hBw2 : Below w.heap.size w w2 := (by repeat (first | exact HBw1.out | exact Below.refl _ _ | refine bl_alloc ?_ _ | refine bl_drewN ?_ _ | refine bl_trans (by assumption) ?_ | refine bl_set ?_ (by first | omega | (simp; done) | (simp; omega)) _))
    have HBw2 := Lib.hid hBw2
    clear hBw2 hcw2 hfw2 hbw2 hkw2 kw1_0_0 kw1_0_1 kw1_0_2 sw1_0 kw1_1_0 kw1_1_1 kw1_1_2 sw1_1
    go_wp2
    go_ret2
    exact ⟨by simp, (by repeat (first | exact HBw2.out | exact Below.refl _ _ | refine bl_alloc ?_ _ | refine bl_drewN ?_ _ | refine bl_trans (by assumption) ?_ | refine bl_set ?_ (by first | omega | (simp; done) | (simp; omega)) _))⟩
  · obtain ⟨hk, ⟨m1, m2⟩, x0, x1⟩ := okAt_true ha
    obtain ⟨hk2, _, y0, y1⟩ := okAt_true hb
    obtain ⟨⟨l1, l2⟩, ⟨g1, g2⟩, ⟨p1, p2⟩, s1, s2⟩ := okWk_true hk
    obtain ⟨_, ⟨j1, j2⟩, _, _⟩ := okWk_true hk2
    clear hk hk2
    rw [ha, show Z true (p + s * m) = p + s * m from rfl] at HA
    rw [hb, show Z true (q + t * m) = q + t * m from rfl] at HB
    generalize p + s * m = x at *
    generalize q + t * m = y at *
    have HH := fun W => Lib.hid (hidesWide_any l x h y j l1 l2 (by omega) (by omega) x0 x1 y0 y1 (by omega) (by omega) W)
    generalize hid_ l x h y j = V at *
    clear ha hb
    go_enter Try.func14, Try.ntmps14
    go_wp2_with fail
    refine ((HA _).out).mono ?_
    rintro e w1 ⟨rfl, hbw1⟩
    obtain ⟨hcw1, hfw1⟩ := bcell hbw1
    have hzw1 := bsize hbw1
    (try simp only [World.size_alloc, World.size_setCell] at hzw1)
    have kw1_0_0 : w1.cell? ⟨w.heap.size, 0, none⟩ = some (.int .i64 h) := by rw [hcw1 _ _ (by first | (simp; done) | omega | (simp; omega))]; first | assumption | (simp [go_sem]; done) | (simp [go_sem]; done) | (simp [go_sem, *]; done)
    have kw1_0_1 : w1.cell? ⟨w.heap.size, 1, none⟩ = some (.int .i64 p) := by rw [hcw1 _ _ (by first | (simp; done) | omega | (simp; omega))]; first | assumption | (simp [go_sem]; done) | (simp [go_sem]; done) | (simp [go_sem, *]; done)
    have kw1_0_2 : w1.cell? ⟨w.heap.size, 2, none⟩ = some (.int .i64 s) := by rw [hcw1 _ _ (by first | (simp; done) | omega | (simp; omega))]; first | assumption | (simp [go_sem]; done) | (simp [go_sem]; done) | (simp [go_sem, *]; done)
    have sw1_0 : w.heap.size < w1.heap.size := by first | omega | (simp at *; omega)
    have kw1_1_0 : w1.cell? ⟨w.heap.size + 1, 0, none⟩ = some (.int .i64 j) := by rw [hcw1 _ _ (by first | (simp; done) | omega | (simp; omega))]; first | assumption | (simp [go_sem]; done) | (simp [go_sem]; done) | (simp [go_sem, *]; done)
    have kw1_1_1 : w1.cell? ⟨w.heap.size + 1, 1, none⟩ = some (.int .i64 q) := by rw [hcw1 _ _ (by first | (simp; done) | omega | (simp; omega))]; first | assumption | (simp [go_sem]; done) | (simp [go_sem]; done) | (simp [go_sem, *]; done)
    have kw1_1_2 : w1.cell? ⟨w.heap.size + 1, 2, none⟩ = some (.int .i64 t) := by rw [hcw1 _ _ (by first | (simp; done) | omega | (simp; omega))]; first | assumption | (simp [go_sem]; done) | (simp [go_sem]; done) | (simp [go_sem, *]; done)
    have sw1_1 : w.heap.size + 1 < w1.heap.size := by first | omega | (simp at *; omega)
    have hBw1 : Below w.heap.size w w1 := (by repeat (first | exact Below.refl _ _ | refine bl_alloc ?_ _ | refine bl_drewN ?_ _ | refine bl_trans (by assumption) ?_ | refine bl_set ?_ (by first | omega | (simp; done) | (simp; omega)) _))
    have HBw1 := Lib.hid hBw1
    clear hBw1 hcw1 hfw1 hbw1
    go_wp2_with fail
    refine ((HB _).out).mono ?_
    rintro e w2 ⟨rfl, hbw2⟩
    obtain ⟨hcw2, hfw2⟩ := bcell hbw2
    have hzw2 := bsize hbw2
    (try simp only [World.size_alloc, World.size_setCell] at hzw2)
    have hkw2 : Below w1.heap.size w1 w2 := (by repeat (first | exact Below.refl _ _ | refine bl_alloc ?_ _ | refine bl_drewN ?_ _ | refine bl_trans (by assumption) ?_ | refine bl_set ?_ (by first | omega | (simp; done) | (simp; omega)) _))
    have kw2_0_0 : w2.cell? ⟨w.heap.size, 0, none⟩ = some (.int .i64 h) := cell_after hkw2 sw1_0 kw1_0_0
    have kw2_0_1 : w2.cell? ⟨w.heap.size, 1, none⟩ = some (.int .i64 p) := cell_after hkw2 sw1_0 kw1_0_1
    have kw2_0_2 : w2.cell? ⟨w.heap.size, 2, none⟩ = some (.int .i64 s) := cell_after hkw2 sw1_0 kw1_0_2
    have sw2_0 : w.heap.size < w2.heap.size := size_after hkw2 sw1_0
    have kw2_1_0 : w2.cell? ⟨w.heap.size + 1, 0, none⟩ = some (.int .i64 j) := cell_after hkw2 sw1_1 kw1_1_0
    have kw2_1_1 : w2.cell? ⟨w.heap.size + 1, 1, none⟩ = some (.int .i64 q) := cell_after hkw2 sw1_1 kw1_1_1
    have kw2_1_2 : w2.cell? ⟨w.heap.size + 1, 2, none⟩ = some (.int .i64 t) := cell_after hkw2 sw1_1 kw1_1_2
    have sw2_1 : w.heap.size + 1 < w2.heap.size := size_after hkw2 sw1_1
    have hBw2 : Below w.heap.size w w2 := (by repeat (first | exact HBw1.out | exact Below.refl _ _ | refine bl_alloc ?_ _ | refine bl_drewN ?_ _ | refine bl_trans (by assumption) ?_ | refine bl_set ?_ (by first | omega | (simp; done) | (simp; omega)) _))
    have HBw2 := Lib.hid hBw2
    clear hBw2 hcw2 hfw2 hbw2 hkw2 kw1_0_0 kw1_0_1 kw1_0_2 sw1_0 kw1_1_0 kw1_1_1 kw1_1_2 sw1_1
    go_wp2_with fail
    refine ((HH _).out).mono ?_
    rintro e w3 ⟨rfl, hbw3⟩
    obtain ⟨hcw3, hfw3⟩ := bcell hbw3
    have hzw3 := bsize hbw3
    (try simp only [World.size_alloc, World.size_setCell] at hzw3)
    have hkw3 : Below w2.heap.size w2 w3 := (by repeat (first | exact Below.refl _ _ | refine bl_alloc ?_ _ | refine bl_drewN ?_ _ | refine bl_trans (by assumption) ?_ | refine bl_set ?_ (by first | omega | (simp; done) | (simp; omega)) _))
    have kw3_0_0 : w3.cell? ⟨w.heap.size, 0, none⟩ = some (.int .i64 h) := cell_after hkw3 sw2_0 kw2_0_0
    have kw3_0_1 : w3.cell? ⟨w.heap.size, 1, none⟩ = some (.int .i64 p) := cell_after hkw3 sw2_0 kw2_0_1
    have kw3_0_2 : w3.cell? ⟨w.heap.size, 2, none⟩ = some (.int .i64 s) := cell_after hkw3 sw2_0 kw2_0_2
    have sw3_0 : w.heap.size < w3.heap.size := size_after hkw3 sw2_0
    have kw3_1_0 : w3.cell? ⟨w.heap.size + 1, 0, none⟩ = some (.int .i64 j) := cell_after hkw3 sw2_1 kw2_1_0
    have kw3_1_1 : w3.cell? ⟨w.heap.size + 1, 1, none⟩ = some (.int .i64 q) := cell_after hkw3 sw2_1 kw2_1_1
    have kw3_1_2 : w3.cell? ⟨w.heap.size + 1, 2, none⟩ = some (.int .i64 t) := cell_after hkw3 sw2_1 kw2_1_2
    have sw3_1 : w.heap.size + 1 < w3.heap.size := size_after hkw3 sw2_1
    have hBw3 : Below w.heap.size w w3 := (by repeat (first | exact HBw2.out | exact Below.refl _ _ | refine bl_alloc ?_ _ | refine bl_drewN ?_ _ | refine bl_trans (by assumption) ?_ | refine bl_set ?_ (by first | omega | (simp; done) | (simp; omega)) _))
    have HBw3 := Lib.hid hBw3
    clear hBw3 hcw3 hfw3 hbw3 hkw3 kw2_0_0 kw2_0_1 kw2_0_2 sw2_0 kw2_1_0 kw2_1_1 kw2_1_2 sw2_1
    go_wp2
    go_ret2
    exact ⟨by simp, (by repeat (first | exact HBw3.out | exact Below.refl _ _ | refine bl_alloc ?_ _ | refine bl_drewN ?_ _ | refine bl_trans (by assumption) ?_ | refine bl_set ?_ (by first | omega | (simp; done) | (simp; omega)) _))⟩
set_option maxHeartbeats 2000000 in
theorem spec_IsInShadow (l h p s j q t m : Int) (w : World) :
    Calls Try.prog 15 #[.int .i64 l, .agg #[.int .i64 h, .int .i64 p, .int .i64 s], .agg #[.int .i64 j, .int .i64 q, .int .i64 t], .int .i64 m] w fun e w' => e = .returned (.tuple #[.bool ((okAt l h p s m && okAt l j q t m) && hid_ l (p + s * m) h (q + t * m) j), .bool (okAt l h p s m && okAt l j q t m)]) ∧ Below w.heap.size w w' := by
  have HA := fun W => Lib.hid (wkPlace_any l h p s m W)
  have HB := fun W => Lib.hid (wkPlace_any l j q t m W)
  cases ha : okAt l h p s m
  · rw [ha, show Z false (p + s * m) = 0 from rfl] at HA
    generalize Z (okAt l j q t m) (q + t * m) = y at *
    generalize okAt l j q t m = B at *
    go_enter Try.func15, Try.ntmps15
    go_wp2_with fail
    refine ((HA _).out).mono ?_
    rintro e w1 ⟨rfl, hbw1⟩
    obtain ⟨hcw1, hfw1⟩ := bcell hbw1
    have hzw1 := bsize hbw1
    (try simp only [World.size_alloc, World.size_setCell] at hzw1)
    have kw1_0_0 : w1.cell? ⟨w.heap.size, 0, none⟩ = some (.int .i64 h) := by rw [hcw1 _ _ (by first | (simp; done) | omega | (simp; omega))]; first | assumption | (simp [go_sem]; done) | (simp [go_sem]; done) | (simp [go_sem, *]; done)
    have kw1_0_1 : w1.cell? ⟨w.heap.size, 1, none⟩ = some (.int .i64 p) := by rw [hcw1 _ _ (by first | (simp; done) | omega | (simp; omega))]; first | assumption | (simp [go_sem]; done) | (simp [go_sem]; done) | (simp [go_sem, *]; done)
    have kw1_0_2 : w1.cell? ⟨w.heap.size, 2, none⟩ = some (.int .i64 s) := by rw [hcw1 _ _ (by first | (simp; done) | omega | (simp; omega))]; first | assumption | (simp [go_sem]; done) | (simp [go_sem]; done) | (simp [go_sem, *]; done)
    have sw1_0 : w.heap.size < w1.heap.size := by first | omega | (simp at *; omega)
    have kw1_1_0 : w1.cell? ⟨w.heap.size + 1, 0, none⟩ = some (.int .i64 j) := by rw [hcw1 _ _ (by first | (simp; done) | omega | (simp; omega))]; first | assumption | (simp [go_sem]; done) | (simp [go_sem]; done) | (simp [go_sem, *]; done)
    have kw1_1_1 : w1.cell? ⟨w.heap.size + 1, 1, none⟩ = some (.int .i64 q) := by rw [hcw1 _ _ (by first | (simp; done) | omega | (simp; omega))]; first | assumption | (simp [go_sem]; done) | (simp [go_sem]; done) | (simp [go_sem, *]; done)
    have kw1_1_2 : w1.cell? ⟨w.heap.size + 1, 2, none⟩ = some (.int .i64 t) := by rw [hcw1 _ _ (by first | (simp; done) | omega | (simp; omega))]; first | assumption | (simp [go_sem]; done) | (simp [go_sem]; done) | (simp [go_sem, *]; done)
    have sw1_1 : w.heap.size + 1 < w1.heap.size := by first | omega | (simp at *; omega)
    have hBw1 : Below w.heap.size w w1 := (by repeat (first | exact Below.refl _ _ | refine bl_alloc ?_ _ | refine bl_drewN ?_ _ | refine bl_trans (by assumption) ?_ | refine bl_set ?_ (by first | omega | (simp; done) | (simp; omega)) _))
    have HBw1 := Lib.hid hBw1
    clear hBw1 hcw1 hfw1 hbw1
    go_wp2_with fail
    refine ((HB _).out).mono ?_
    rintro e w2 ⟨rfl, hbw2⟩
    obtain ⟨hcw2, hfw2⟩ := bcell hbw2
    have hzw2 := bsize hbw2
    (try simp only [World.size_alloc, World.size_setCell] at hzw2)
    have hkw2 : Below w1.heap.size w1 w2 := (by repeat (first | exact Below.refl _ _ | refine bl_alloc ?_ _ | refine bl_drewN ?_ _ | refine bl_trans (by assumption) ?_ | refine bl_set ?_ (by first | omega | (simp; done) | (simp; omega)) _))
    have kw2_0_0 : w2.cell? ⟨w.heap.size, 0, none⟩ = some (.int .i64 h) := cell_after hkw2 sw1_0 kw1_0_0
    have kw2_0_1 : w2.cell? ⟨w.heap.size, 1, none⟩ = some (.int .i64 p) := cell_after hkw2 sw1_0 kw1_0_1
    have kw2_0_2 : w2.cell? ⟨w.heap.size, 2, none⟩ = some (.int .i64 s) := cell_after hkw2 sw1_0 kw1_0_2
    have sw2_0 : w.heap.size < w2.heap.size := size_after hkw2 sw1_0
    have kw2_1_0 : w2.cell? ⟨w.heap.size + 1, 0, none⟩ = some (.int .i64 j) := cell_after hkw2 sw1_1 kw1_1_0
    have kw2_1_1 : w2.cell? ⟨w.heap.size + 1, 1, none⟩ = some (.int .i64 q) := cell_after hkw2 sw1_1 kw1_1_1
    have kw2_1_2 : w2.cell? ⟨w.heap.size + 1, 2, none⟩ = some (.int .i64 t) := cell_after hkw2 sw1_1 kw1_1_2
    have sw2_1 : w.heap.size + 1 < w2.heap.size := size_after hkw2 sw1_1
    have hBw2 : Below w.heap.size w w2 := (by repeat (first | exact HBw1.out | exact Below.refl _ _ | refine bl_alloc ?_ _ | refine bl_drewN ?_ _ | refine bl_trans (by assumption) ?_ | refine bl_set ?_ (by first | omega | (simp; done) | (simp; omega)) _))
    have HBw2 := Lib.hid hBw2
    clear hBw2 hcw2 hfw2 hbw2 hkw2 kw1_0_0 kw1_0_1 kw1_0_2 sw1_0 kw1_1_0 kw1_1_1 kw1_1_2 sw1_1
    go_wp2
    go_ret2
    exact ⟨by simp, (by repeat (first | exact HBw2.out | exact Below.refl _ _ | refine bl_alloc ?_ _ | refine bl_drewN ?_ _ | refine bl_trans (by assumption) ?_ | refine bl_set ?_ (by first | omega | (simp; done) | (simp; omega)) _))⟩
  cases hb : okAt l j q t m
  · rw [hb, show Z false (q + t * m) = 0 from rfl] at HB
    rw [ha] at HA
    generalize Z true (p + s * m) = x at *
    go_enter Try.func15, Try.ntmps15
    go_wp2_with fail
    refine ((HA _).out).mono ?_
    rintro e w1 ⟨rfl, hbw1⟩
    obtain ⟨hcw1, hfw1⟩ := bcell hbw1
    have hzw1 := bsize hbw1
    (try simp only [World.size_alloc, World.size_setCell] at hzw1)
    have kw1_0_0 : w1.cell? ⟨w.heap.size, 0, none⟩ = some (.int .i64 h) := by rw [hcw1 _ _ (by first | (simp; done) | omega | (simp; omega))]; first | assumption | (simp [go_sem]; done) | (simp [go_sem]; done) | (simp [go_sem, *]; done)
    have kw1_0_1 : w1.cell? ⟨w.heap.size, 1, none⟩ = some (.int .i64 p) := by rw [hcw1 _ _ (by first | (simp; done) | omega | (simp; omega))]; first | assumption | (simp [go_sem]; done) | (simp [go_sem]; done) | (simp [go_sem, *]; done)
    have kw1_0_2 : w1.cell? ⟨w.heap.size, 2, none⟩ = some (.int .i64 s) := by rw [hcw1 _ _ (by first | (simp; done) | omega | (simp; omega))]; first | assumption | (simp [go_sem]; done) | (simp [go_sem]; done) | (simp [go_sem, *]; done)
    have sw1_0 : w.heap.size < w1.heap.size := by first | omega | (simp at *; omega)
    have kw1_1_0 : w1.cell? ⟨w.heap.size + 1, 0, none⟩ = some (.int .i64 j) := by rw [hcw1 _ _ (by first | (simp; done) | omega | (simp; omega))]; first | assumption | (simp [go_sem]; done) | (simp [go_sem]; done) | (simp [go_sem, *]; done)
    have kw1_1_1 : w1.cell? ⟨w.heap.size + 1, 1, none⟩ = some (.int .i64 q) := by rw [hcw1 _ _ (by first | (simp; done) | omega | (simp; omega))]; first | assumption | (simp [go_sem]; done) | (simp [go_sem]; done) | (simp [go_sem, *]; done)
    have kw1_1_2 : w1.cell? ⟨w.heap.size + 1, 2, none⟩ = some (.int .i64 t) := by rw [hcw1 _ _ (by first | (simp; done) | omega | (simp; omega))]; first | assumption | (simp [go_sem]; done) | (simp [go_sem]; done) | (simp [go_sem, *]; done)
    have sw1_1 : w.heap.size + 1 < w1.heap.size := by first | omega | (simp at *; omega)
    have hBw1 : Below w.heap.size w w1 := (by repeat (first | exact Below.refl _ _ | refine bl_alloc ?_ _ | refine bl_drewN ?_ _ | refine bl_trans (by assumption) ?_ | refine bl_set ?_ (by first | omega | (simp; done) | (simp; omega)) _))
    have HBw1 := Lib.hid hBw1
    clear hBw1 hcw1 hfw1 hbw1
    go_wp2_with fail
    refine ((HB _).out).mono ?_
    rintro e w2 ⟨rfl, hbw2⟩
    obtain ⟨hcw2, hfw2⟩ := bcell hbw2
    have hzw2 := bsize hbw2
    (try simp only [World.size_alloc, World.size_setCell] at hzw2)
    have hkw2 : Below w1.heap.size w1 w2 := (by repeat (first | exact Below.refl _ _ | refine bl_alloc ?_ _ | refine bl_drewN ?_ _ | refine bl_trans (by assumption) ?_ | refine bl_set ?_ (by first | omega | (simp; done) | (simp; omega)) _))
    have kw2_0_0 : w2.cell? ⟨w.heap.size, 0, none⟩ = some (.int .i64 h) := cell_after hkw2 sw1_0 kw1_0_0
    have kw2_0_1 : w2.cell? ⟨w.heap.size, 1, none⟩ = some (.int .i64 p) := cell_after hkw2 sw1_0 kw1_0_1
    have kw2_0_2 : w2.cell? ⟨w.heap.size, 2, none⟩ = some (.int .i64 s) := cell_after hkw2 sw1_0 kw1_0_2
    have sw2_0 : w.heap.size < w2.heap.size := size_after hkw2 sw1_0
    have kw2_1_0 : w2.cell? ⟨w.heap.size + 1, 0, none⟩ = some (.int .i64 j) := cell_after hkw2 sw1_1 kw1_1_0
    have kw2_1_1 : w2.cell? ⟨w.heap.size + 1, 1, none⟩ = some (.int .i64 q) := cell_after hkw2 sw1_1 kw1_1_1
    have kw2_1_2 : w2.cell? ⟨w.heap.size + 1, 2, none⟩ = some (.int .i64 t) := cell_after hkw2 sw1_1 kw1_1_2
    have sw2_1 : w.heap.size + 1 < w2.heap.size := size_after hkw2 sw1_1
    have hBw2 : Below w.heap.size w w2 := (by repeat (first | exact HBw1.out | exact Below.refl _ _ | refine bl_alloc ?_ _ | refine bl_drewN ?_ _ | refine bl_trans (by assumption) ?_ | refine bl_set ?_ (by first | omega | (simp; done) | (simp; omega)) _))
    have HBw2 := Lib.hid hBw2
    clear hBw2 hcw2 hfw2 hbw2 hkw2 kw1_0_0 kw1_0_1 kw1_0_2 sw1_0 kw1_1_0 kw1_1_1 kw1_1_2 sw1_1
    go_wp2
    go_ret2
    exact ⟨by simp, (by repeat (first | exact HBw2.out | exact Below.refl _ _ | refine bl_alloc ?_ _ | refine bl_drewN ?_ _ | refine bl_trans (by assumption) ?_ | refine bl_set ?_ (by first | omega | (simp; done) | (simp; omega)) _))⟩
  · obtain ⟨hk, ⟨m1, m2⟩, x0, x1⟩ := okAt_true ha
    obtain ⟨hk2, _, y0, y1⟩ := okAt_true hb
    obtain ⟨⟨l1, l2⟩, ⟨g1, g2⟩, ⟨p1, p2⟩, s1, s2⟩ := okWk_true hk
    obtain ⟨_, ⟨j1, j2⟩, _, _⟩ := okWk_true hk2
    clear hk hk2
    rw [ha, show Z true (p + s * m) = p + s * m from rfl] at HA
    rw [hb, show Z true (q + t * m) = q + t * m from rfl] at HB
    generalize p + s * m = x at *
    generalize q + t * m = y at *
    obtain ⟨⟨f1, f2⟩, f3, f4⟩ := line_wide l1 l2 g1 (show h < l by omega) x0 x1 y0 y1
    obtain ⟨f5, f6⟩ := mul_bd2 (a := j) (b := x) (m := 200) (k := 3500) (by omega) (by omega) (by omega) (by omega)
    have HV := Lib.hid (show hid_ l x h y j = (decide (x < y) && decide (j * x ≤ l * x - (l - h) * y)) from rfl)
    generalize hid_ l x h y j = V at *
    clear ha hb
    by_cases d1 : x < y
    · go_enter Try.func15, Try.ntmps15
      go_wp2_with fail
      refine ((HA _).out).mono ?_
      rintro e w1 ⟨rfl, hbw1⟩
      obtain ⟨hcw1, hfw1⟩ := bcell hbw1
      have hzw1 := bsize hbw1
      (try simp only [World.size_alloc, World.size_setCell] at hzw1)
      have kw1_0_0 : w1.cell? ⟨w.heap.size, 0, none⟩ = some (.int .i64 h) := by rw [hcw1 _ _ (by first | (simp; done) | omega | (simp; omega))]; first | assumption | (simp [go_sem]; done) | (simp [go_sem]; done) | (simp [go_sem, *]; done)
      have kw1_0_1 : w1.cell? ⟨w.heap.size, 1, none⟩ = some (.int .i64 p) := by rw [hcw1 _ _ (by first | (simp; done) | omega | (simp; omega))]; first | assumption | (simp [go_sem]; done) | (simp [go_sem]; done) | (simp [go_sem, *]; done)
      have kw1_0_2 : w1.cell? ⟨w.heap.size, 2, none⟩ = some (.int .i64 s) := by rw [hcw1 _ _ (by first | (simp; done) | omega | (simp; omega))]; first | assumption | (simp [go_sem]; done) | (simp [go_sem]; done) | (simp [go_sem, *]; done)
      have sw1_0 : w.heap.size < w1.heap.size := by first | omega | (simp at *; omega)
      have kw1_1_0 : w1.cell? ⟨w.heap.size + 1, 0, none⟩ = some (.int .i64 j) := by rw [hcw1 _ _ (by first | (simp; done) | omega | (simp; omega))]; first | assumption | (simp [go_sem]; done) | (simp [go_sem]; done) | (simp [go_sem, *]; done)
      have kw1_1_1 : w1.cell? ⟨w.heap.size + 1, 1, none⟩ = some (.int .i64 q) := by rw [hcw1 _ _ (by first | (simp; done) | omega | (simp; omega))]; first | assumption | (simp [go_sem]; done) | (simp [go_sem]; done) | (simp [go_sem, *]; done)
      have kw1_1_2 : w1.cell? ⟨w.heap.size + 1, 2, none⟩ = some (.int .i64 t) := by rw [hcw1 _ _ (by first | (simp; done) | omega | (simp; omega))]; first | assumption | (simp [go_sem]; done) | (simp [go_sem]; done) | (simp [go_sem, *]; done)
      have sw1_1 : w.heap.size + 1 < w1.heap.size := by first | omega | (simp at *; omega)
      have hBw1 : Below w.heap.size w w1 := (by repeat (first | exact Below.refl _ _ | refine bl_alloc ?_ _ | refine bl_drewN ?_ _ | refine bl_trans (by assumption) ?_ | refine bl_set ?_ (by first | omega | (simp; done) | (simp; omega)) _))
      have HBw1 := Lib.hid hBw1
      clear hBw1 hcw1 hfw1 hbw1
      go_wp2_with fail
      refine ((HB _).out).mono ?_
      rintro e w2 ⟨rfl, hbw2⟩
      obtain ⟨hcw2, hfw2⟩ := bcell hbw2
      have hzw2 := bsize hbw2
      (try simp only [World.size_alloc, World.size_setCell] at hzw2)
      have hkw2 : Below w1.heap.size w1 w2 := (by repeat (first | exact Below.refl _ _ | refine bl_alloc ?_ _ | refine bl_drewN ?_ _ | refine bl_trans (by assumption) ?_ | refine bl_set ?_ (by first | omega | (simp; done) | (simp; omega)) _))
      have kw2_0_0 : w2.cell? ⟨w.heap.size, 0, none⟩ = some (.int .i64 h) := cell_after hkw2 sw1_0 kw1_0_0
      have kw2_0_1 : w2.cell? ⟨w.heap.size, 1, none⟩ = some (.int .i64 p) := cell_after hkw2 sw1_0 kw1_0_1
      have kw2_0_2 : w2.cell? ⟨w.heap.size, 2, none⟩ = some (.int .i64 s) := cell_after hkw2 sw1_0 kw1_0_2
      have sw2_0 : w.heap.size < w2.heap.size := size_after hkw2 sw1_0
      have kw2_1_0 : w2.cell? ⟨w.heap.size + 1, 0, none⟩ = some (.int .i64 j) := cell_after hkw2 sw1_1 kw1_1_0
      have kw2_1_1 : w2.cell? ⟨w.heap.size + 1, 1, none⟩ = some (.int .i64 q) := cell_after hkw2 sw1_1 kw1_1_1
      have kw2_1_2 : w2.cell? ⟨w.heap.size + 1, 2, none⟩ = some (.int .i64 t) := cell_after hkw2 sw1_1 kw1_1_2
      have sw2_1 : w.heap.size + 1 < w2.heap.size := size_after hkw2 sw1_1
      have hBw2 : Below w.heap.size w w2 := (by repeat (first | exact HBw1.out | exact Below.refl _ _ | refine bl_alloc ?_ _ | refine bl_drewN ?_ _ | refine bl_trans (by assumption) ?_ | refine bl_set ?_ (by first | omega | (simp; done) | (simp; omega)) _))
      have HBw2 := Lib.hid hBw2
      clear hBw2 hcw2 hfw2 hbw2 hkw2 kw1_0_0 kw1_0_1 kw1_0_2 sw1_0 kw1_1_0 kw1_1_1 kw1_1_2 sw1_1
      go_wp2
      go_ret2
      exact ⟨by rw [HV.out]; simp [d1], (by repeat (first | exact HBw2.out | exact Below.refl _ _ | refine bl_alloc ?_ _ | refine bl_drewN ?_ _ | refine bl_trans (by assumption) ?_ | refine bl_set ?_ (by first | omega | (simp; done) | (simp; omega)) _))⟩
    · go_enter Try.func15, Try.ntmps15
      go_wp2_with fail
      refine ((HA _).out).mono ?_
      rintro e w1 ⟨rfl, hbw1⟩
      obtain ⟨hcw1, hfw1⟩ := bcell hbw1
      have hzw1 := bsize hbw1
      (try simp only [World.size_alloc, World.size_setCell] at hzw1)
      have kw1_0_0 : w1.cell? ⟨w.heap.size, 0, none⟩ = some (.int .i64 h) := by rw [hcw1 _ _ (by first | (simp; done) | omega | (simp; omega))]; first | assumption | (simp [go_sem]; done) | (simp [go_sem]; done) | (simp [go_sem, *]; done)
      have kw1_0_1 : w1.cell? ⟨w.heap.size, 1, none⟩ = some (.int .i64 p) := by rw [hcw1 _ _ (by first | (simp; done) | omega | (simp; omega))]; first | assumption | (simp [go_sem]; done) | (simp [go_sem]; done) | (simp [go_sem, *]; done)
      have kw1_0_2 : w1.cell? ⟨w.heap.size, 2, none⟩ = some (.int .i64 s) := by rw [hcw1 _ _ (by first | (simp; done) | omega | (simp; omega))]; first | assumption | (simp [go_sem]; done) | (simp [go_sem]; done) | (simp [go_sem, *]; done)
      have sw1_0 : w.heap.size < w1.heap.size := by first | omega | (simp at *; omega)
      have kw1_1_0 : w1.cell? ⟨w.heap.size + 1, 0, none⟩ = some (.int .i64 j) := by rw [hcw1 _ _ (by first | (simp; done) | omega | (simp; omega))]; first | assumption | (simp [go_sem]; done) | (simp [go_sem]; done) | (simp [go_sem, *]; done)
      have kw1_1_1 : w1.cell? ⟨w.heap.size + 1, 1, none⟩ = some (.int .i64 q) := by rw [hcw1 _ _ (by first | (simp; done) | omega | (simp; omega))]; first | assumption | (simp [go_sem]; done) | (simp [go_sem]; done) | (simp [go_sem, *]; done)
      have kw1_1_2 : w1.cell? ⟨w.heap.size + 1, 2, none⟩ = some (.int .i64 t) := by rw [hcw1 _ _ (by first | (simp; done) | omega | (simp; omega))]; first | assumption | (simp [go_sem]; done) | (simp [go_sem]; done) | (simp [go_sem, *]; done)
      have sw1_1 : w.heap.size + 1 < w1.heap.size := by first | omega | (simp at *; omega)
      have hBw1 : Below w.heap.size w w1 := (by repeat (first | exact Below.refl _ _ | refine bl_alloc ?_ _ | refine bl_drewN ?_ _ | refine bl_trans (by assumption) ?_ | refine bl_set ?_ (by first | omega | (simp; done) | (simp; omega)) _))
      have HBw1 := Lib.hid hBw1
      clear hBw1 hcw1 hfw1 hbw1
      go_wp2_with fail
      refine ((HB _).out).mono ?_
      rintro e w2 ⟨rfl, hbw2⟩
      obtain ⟨hcw2, hfw2⟩ := bcell hbw2
      have hzw2 := bsize hbw2
      (try simp only [World.size_alloc, World.size_setCell] at hzw2)
      have hkw2 : Below w1.heap.size w1 w2 := (by repeat (first | exact Below.refl _ _ | refine bl_alloc ?_ _ | refine bl_drewN ?_ _ | refine bl_trans (by assumption) ?_ | refine bl_set ?_ (by first | omega | (simp; done) | (simp; omega)) _))
      have kw2_0_0 : w2.cell? ⟨w.heap.size, 0, none⟩ = some (.int .i64 h) := cell_after hkw2 sw1_0 kw1_0_0
      have kw2_0_1 : w2.cell? ⟨w.heap.size, 1, none⟩ = some (.int .i64 p) := cell_after hkw2 sw1_0 kw1_0_1
      have kw2_0_2 : w2.cell? ⟨w.heap.size, 2, none⟩ = some (.int .i64 s) := cell_after hkw2 sw1_0 kw1_0_2
      have sw2_0 : w.heap.size < w2.heap.size := size_after hkw2 sw1_0
      have kw2_1_0 : w2.cell? ⟨w.heap.size + 1, 0, none⟩ = some (.int .i64 j) := cell_after hkw2 sw1_1 kw1_1_0
      have kw2_1_1 : w2.cell? ⟨w.heap.size + 1, 1, none⟩ = some (.int .i64 q) := cell_after hkw2 sw1_1 kw1_1_1
      have kw2_1_2 : w2.cell? ⟨w.heap.size + 1, 2, none⟩ = some (.int .i64 t) := cell_after hkw2 sw1_1 kw1_1_2
      have sw2_1 : w.heap.size + 1 < w2.heap.size := size_after hkw2 sw1_1
      have hBw2 : Below w.heap.size w w2 := (by repeat (first | exact HBw1.out | exact Below.refl _ _ | refine bl_alloc ?_ _ | refine bl_drewN ?_ _ | refine bl_trans (by assumption) ?_ | refine bl_set ?_ (by first | omega | (simp; done) | (simp; omega)) _))
      have HBw2 := Lib.hid hBw2
      clear hBw2 hcw2 hfw2 hbw2 hkw2 kw1_0_0 kw1_0_1 kw1_0_2 sw1_0 kw1_1_0 kw1_1_1 kw1_1_2 sw1_1
      go_wp2
      go_ret2
      exact ⟨by rw [HV.out]; simp [d1]; try (intro hh; omega), (by repeat (first | exact HBw2.out | exact Below.refl _ _ | refine bl_alloc ?_ _ | refine bl_drewN ?_ _ | refine bl_trans (by assumption) ?_ | refine bl_set ?_ (by first | omega | (simp; done) | (simp; omega)) _))⟩
end Go.Proofs.Ytfnamahdofigaaa

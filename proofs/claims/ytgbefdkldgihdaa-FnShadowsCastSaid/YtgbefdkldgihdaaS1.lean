/- Contracts of the functions of chapter 2 that take numbers and single poles. -/
import Derived.Test.YtgbefdkldgihdaaC1
import Derived.Deep.RegionHeld3
namespace Go.Proofs.Ytgbefdkldgihdaa
open Go.RowKit
theorem cell_after {u v : World} (hb : Below u.heap.size u v) {n o : Nat} {x : Value} (hn : n < u.heap.size) (hu : u.cell? ⟨n, o, none⟩ = some x) : v.cell? ⟨n, o, none⟩ = some x := by
  rw [(bcell hb).1 _ _ hn]; exact hu
theorem size_after {u v : World} (hb : Below u.heap.size u v) {n : Nat} (hn : n < u.heap.size) : n < v.heap.size := Nat.lt_of_lt_of_le hn hb.size
theorem S2_after {w u v : World} {x y : Value} (hb : Below u.heap.size u v) (h : u.cell? ⟨w.heap.size, 0, none⟩ = some x ∧ u.cell? ⟨w.heap.size, 1, none⟩ = some y ∧ w.heap.size < u.heap.size ∧ Below w.heap.size w u) :
    v.cell? ⟨w.heap.size, 0, none⟩ = some x ∧ v.cell? ⟨w.heap.size, 1, none⟩ = some y ∧ w.heap.size < v.heap.size ∧ Below w.heap.size w v :=
  ⟨cell_after hb h.2.2.1 h.1, cell_after hb h.2.2.1 h.2.1, size_after hb h.2.2.1, bl_trans hb h.2.2.2⟩

theorem mul_bd {a b m : Int} (ha : 0 ≤ a) (hb : 0 ≤ b) (ha' : a ≤ m) (hb' : b ≤ m) : 0 ≤ a * b ∧ a * b ≤ m * m :=
  ⟨Int.mul_nonneg ha hb, Int.mul_le_mul ha' hb' hb (by omega)⟩
theorem mul_bd2 {a b m k : Int} (ha : 0 ≤ a) (hb : 0 ≤ b) (ha' : a ≤ m) (hb' : b ≤ k) : 0 ≤ a * b ∧ a * b ≤ m * k :=
  ⟨Int.mul_nonneg ha hb, Int.mul_le_mul ha' hb' hb (by omega)⟩
def okM (l : Int) : Bool := within l 2 200
def okP (a b : Int) : Bool := within a 1 500 && within b 1 200
def okB (l a b : Int) : Bool := okM l && (okP a b && decide (b < l))
theorem okM_true {l : Int} (h : okM l = true) : 2 ≤ l ∧ l ≤ 200 := within_true h
theorem okP_true {a b : Int} (h : okP a b = true) : (1 ≤ a ∧ a ≤ 500) ∧ 1 ≤ b ∧ b ≤ 200 := by
  simp only [okP, Bool.and_eq_true] at h
  exact ⟨within_true h.1, within_true h.2⟩
theorem okB_true {l a b : Int} (h : okB l a b = true) : (2 ≤ l ∧ l ≤ 200) ∧ (1 ≤ a ∧ a ≤ 500) ∧ (1 ≤ b ∧ b ≤ 200) ∧ b < l := by
  simp only [okB, Bool.and_eq_true, decide_eq_true_eq] at h
  obtain ⟨h1, h2, h3⟩ := h
  have := okM_true h1
  have := okP_true h2
  omega
theorem ret_int {k : IntKind} {a b : Int} (h : a = b) : Ending.returned (.int k a) = .returned (.int k b) := by rw [h]

set_option maxHeartbeats 400000 in
theorem impl_isLamp (l : Int) (w : World) :
    Calls Try.prog 44 #[.int .i64 l] w fun e w' => e = .returned (.bool (okM l)) ∧ w = w' := by
  go_enter Try.func44, Try.ntmps44
  go_wp2_with (go_at_call 39; refine (isWithin_any _ _ _ _).mono ?_; rintro e w' ⟨rfl, rfl⟩)
  go_ret
  exact ⟨rfl, rfl⟩
set_option maxHeartbeats 400000 in
theorem spec_swLamp (l : Int) (w : World) :
    Calls Try.prog 47 #[.int .i64 l] w fun e w' => e = .returned (.bool (okM l)) ∧ w = w' := by
  go_enter Try.func47, Try.ntmps47
  go_wp2_with (go_at_call 41; refine (l1In_any _ _ _ _).mono ?_; rintro e w' ⟨rfl, rfl⟩)
  go_ret
  exact ⟨rfl, rfl⟩
set_option maxHeartbeats 400000 in
theorem impl_isPole (a b : Int) (w : World) :
    Calls Try.prog 43 #[.agg #[.int .i64 a, .int .i64 b]] w fun e w' => e = .returned (.bool (okP a b)) ∧ Below w.heap.size w w' := by
  cases h1 : within a 1 500 <;> cases h2 : within b 1 200
  all_goals
    go_enter Try.func43, Try.ntmps43
    go_wp2_with (go_at_call 39; refine (isWithin_any _ _ _ _).mono ?_; rintro e w' ⟨rfl, rfl⟩)
    go_ret
    exact ⟨by simp [okP, h1, h2], (by repeat (first | exact Below.refl _ _ | refine bl_alloc ?_ _ | refine bl_drewN ?_ _ | refine bl_trans (by assumption) ?_ | refine bl_set ?_ (by first | omega | (simp; done) | (simp; omega)) _))⟩
set_option maxHeartbeats 400000 in
theorem spec_swPole (a b : Int) (w : World) :
    Calls Try.prog 46 #[.agg #[.int .i64 a, .int .i64 b]] w fun e w' => e = .returned (.bool (okP a b)) ∧ Below w.heap.size w w' := by
  cases h1 : within a 1 500 <;> cases h2 : within b 1 200
  all_goals
    go_enter Try.func46, Try.ntmps46
    go_wp2_with (go_at_call 41; refine (l1In_any _ _ _ _).mono ?_; rintro e w' ⟨rfl, rfl⟩)
    go_ret
    exact ⟨by simp [okP, h1, h2], (by repeat (first | exact Below.refl _ _ | refine bl_alloc ?_ _ | refine bl_drewN ?_ _ | refine bl_trans (by assumption) ?_ | refine bl_set ?_ (by first | omega | (simp; done) | (simp; omega)) _))⟩
set_option maxHeartbeats 400000 in
theorem impl_isPoleOf (l a b : Int) (w : World) :
    Calls Try.prog 35 #[.int .i64 l, .agg #[.int .i64 a, .int .i64 b]] w fun e w' => e = .returned (.bool (okB l a b)) ∧ Below w.heap.size w w' := by
  cases h1 : okM l
  · go_enter Try.func35, Try.ntmps35
    go_wp2_with (go_at_call 44; refine (impl_isLamp _ _).mono ?_; rintro e w' ⟨rfl, rfl⟩; rw [h1])
    go_ret
    exact ⟨by simp [okB, h1], (by repeat (first | exact Below.refl _ _ | refine bl_alloc ?_ _ | refine bl_drewN ?_ _ | refine bl_trans (by assumption) ?_ | refine bl_set ?_ (by first | omega | (simp; done) | (simp; omega)) _))⟩
  · cases h2 : okP a b
    · go_enter Try.func35, Try.ntmps35
      go_wp2_with (first | (go_at_call 44; refine (impl_isLamp _ _).mono ?_; rintro e w' ⟨rfl, rfl⟩; rw [h1]) | (go_at_call 43; refine (impl_isPole _ _ _).mono ?_; rintro e w1 ⟨rfl, hb⟩; obtain ⟨hc, hf⟩ := bcell hb; have hz := bsize hb; (try simp only [World.size_alloc] at hz); (try have hz0 : w.heap.size < w1.heap.size := by omega); rw [h2]))
      go_ret
      exact ⟨by simp [okB, h1, h2], (by repeat (first | exact Below.refl _ _ | refine bl_alloc ?_ _ | refine bl_drewN ?_ _ | refine bl_trans (by assumption) ?_ | refine bl_set ?_ (by first | omega | (simp; done) | (simp; omega)) _))⟩
    · go_enter Try.func35, Try.ntmps35
      go_wp2_with (first | (go_at_call 44; refine (impl_isLamp _ _).mono ?_; rintro e w' ⟨rfl, rfl⟩; rw [h1]) | (go_at_call 43; refine (impl_isPole _ _ _).mono ?_; rintro e w1 ⟨rfl, hb⟩; obtain ⟨hc, hf⟩ := bcell hb; have hz := bsize hb; (try simp only [World.size_alloc] at hz); (try have hz0 : w.heap.size < w1.heap.size := by omega); rw [h2]))
      all_goals (go_ret; exact ⟨by simp [okB, h1, h2] <;> omega, (by repeat (first | exact Below.refl _ _ | refine bl_alloc ?_ _ | refine bl_drewN ?_ _ | refine bl_trans (by assumption) ?_ | refine bl_set ?_ (by first | omega | (simp; done) | (simp; omega)) _))⟩)
set_option maxHeartbeats 400000 in
theorem spec_swBoth (l a b : Int) (w : World) :
    Calls Try.prog 37 #[.int .i64 l, .agg #[.int .i64 a, .int .i64 b]] w fun e w' => e = .returned (.bool (okB l a b)) ∧ Below w.heap.size w w' := by
  cases h1 : okM l
  · go_enter Try.func37, Try.ntmps37
    go_wp2_with (go_at_call 47; refine (spec_swLamp _ _).mono ?_; rintro e w' ⟨rfl, rfl⟩; rw [h1])
    go_ret
    exact ⟨by simp [okB, h1], (by repeat (first | exact Below.refl _ _ | refine bl_alloc ?_ _ | refine bl_drewN ?_ _ | refine bl_trans (by assumption) ?_ | refine bl_set ?_ (by first | omega | (simp; done) | (simp; omega)) _))⟩
  · cases h2 : okP a b
    · go_enter Try.func37, Try.ntmps37
      go_wp2_with (first | (go_at_call 47; refine (spec_swLamp _ _).mono ?_; rintro e w' ⟨rfl, rfl⟩; rw [h1]) | (go_at_call 46; refine (spec_swPole _ _ _).mono ?_; rintro e w1 ⟨rfl, hb⟩; obtain ⟨hc, hf⟩ := bcell hb; have hz := bsize hb; (try simp only [World.size_alloc] at hz); (try have hz0 : w.heap.size < w1.heap.size := by omega); rw [h2]))
      go_ret
      exact ⟨by simp [okB, h1, h2], (by repeat (first | exact Below.refl _ _ | refine bl_alloc ?_ _ | refine bl_drewN ?_ _ | refine bl_trans (by assumption) ?_ | refine bl_set ?_ (by first | omega | (simp; done) | (simp; omega)) _))⟩
    · go_enter Try.func37, Try.ntmps37
      go_wp2_with (first | (go_at_call 47; refine (spec_swLamp _ _).mono ?_; rintro e w' ⟨rfl, rfl⟩; rw [h1]) | (go_at_call 46; refine (spec_swPole _ _ _).mono ?_; rintro e w1 ⟨rfl, hb⟩; obtain ⟨hc, hf⟩ := bcell hb; have hz := bsize hb; (try simp only [World.size_alloc] at hz); (try have hz0 : w.heap.size < w1.heap.size := by omega); rw [h2]))
      all_goals (go_ret; exact ⟨by simp [okB, h1, h2] <;> omega, (by repeat (first | exact Below.refl _ _ | refine bl_alloc ?_ _ | refine bl_drewN ?_ _ | refine bl_trans (by assumption) ?_ | refine bl_set ?_ (by first | omega | (simp; done) | (simp; omega)) _))⟩)
def SL (f : Int → Int → Int) (l a b : Int) : Int := if okB l a b then f (a * b) (l - b) else 0
set_option maxHeartbeats 400000 in
theorem impl_ShadowLength (l a b : Int) (w : World) :
    Calls Try.prog 6 #[.int .i64 l, .agg #[.int .i64 a, .int .i64 b]] w fun e w' => e = .returned (.tuple #[.int .i64 (SL ln l a b), .int .i64 (SL ld l a b), .bool (okB l a b)]) ∧ Below w.heap.size w w' := by
  cases h : okB l a b
  · go_enter Try.func6, Try.ntmps6
    go_wp2_with (go_at_call 35; refine (impl_isPoleOf _ _ _ _).mono ?_; rintro e w1 ⟨rfl, hb⟩; obtain ⟨hc, hf⟩ := bcell hb; have hz := bsize hb; (try simp only [World.size_alloc] at hz); (try have hz0 : w.heap.size < w1.heap.size := by omega); rw [h])
    go_ret3
    exact ⟨by simp [SL, h], (by repeat (first | exact Below.refl _ _ | refine bl_alloc ?_ _ | refine bl_drewN ?_ _ | refine bl_trans (by assumption) ?_ | refine bl_set ?_ (by first | omega | (simp; done) | (simp; omega)) _))⟩
  · obtain ⟨⟨l0, l1⟩, ⟨a0, a1⟩, ⟨b0, b1⟩, b2⟩ := okB_true h
    obtain ⟨f1, f2⟩ := mul_bd (a := a) (b := b) (m := 500) (by omega) (by omega) (by omega) (by omega)
    go_enter Try.func6, Try.ntmps6
    go_wp2_with (first | (go_at_call 35; refine (impl_isPoleOf _ _ _ _).mono ?_; rintro e w1 ⟨rfl, hb⟩; obtain ⟨hc, hf⟩ := bcell hb; have hz := bsize hb; (try simp only [World.size_alloc] at hz); (try have hz0 : w.heap.size < w1.heap.size := by omega); rw [h]) | (go_at_call 36; refine (toldFraction_any _ _ (by omega) (by omega) (by omega) (by omega) _).mono ?_; rintro e w' ⟨rfl, nn, rfl⟩))
    go_ret3
    exact ⟨by simp [SL, h], (by repeat (first | exact Below.refl _ _ | refine bl_alloc ?_ _ | refine bl_drewN ?_ _ | refine bl_trans (by assumption) ?_ | refine bl_set ?_ (by first | omega | (simp; done) | (simp; omega)) _))⟩
set_option maxHeartbeats 400000 in
theorem spec_ShadowLength (l a b : Int) (w : World) :
    Calls Try.prog 7 #[.int .i64 l, .agg #[.int .i64 a, .int .i64 b]] w fun e w' => e = .returned (.tuple #[.int .i64 (SL ln l a b), .int .i64 (SL ld l a b), .bool (okB l a b)]) ∧ Below w.heap.size w w' := by
  cases h : okB l a b
  · go_enter Try.func7, Try.ntmps7
    go_wp2_with (go_at_call 37; refine (spec_swBoth _ _ _ _).mono ?_; rintro e w1 ⟨rfl, hb⟩; obtain ⟨hc, hf⟩ := bcell hb; have hz := bsize hb; (try simp only [World.size_alloc] at hz); (try have hz0 : w.heap.size < w1.heap.size := by omega); rw [h])
    go_ret3
    exact ⟨by simp [SL, h], (by repeat (first | exact Below.refl _ _ | refine bl_alloc ?_ _ | refine bl_drewN ?_ _ | refine bl_trans (by assumption) ?_ | refine bl_set ?_ (by first | omega | (simp; done) | (simp; omega)) _))⟩
  · obtain ⟨⟨l0, l1⟩, ⟨a0, a1⟩, ⟨b0, b1⟩, b2⟩ := okB_true h
    obtain ⟨f1, f2⟩ := mul_bd (a := a) (b := b) (m := 500) (by omega) (by omega) (by omega) (by omega)
    go_enter Try.func7, Try.ntmps7
    go_wp2_with (first | (go_at_call 37; refine (spec_swBoth _ _ _ _).mono ?_; rintro e w1 ⟨rfl, hb⟩; obtain ⟨hc, hf⟩ := bcell hb; have hz := bsize hb; (try simp only [World.size_alloc] at hz); (try have hz0 : w.heap.size < w1.heap.size := by omega); rw [h]) | (go_at_call 38; refine (clLow_any _ _ (by omega) (by omega) (by omega) (by omega) _).mono ?_; rintro e w' ⟨rfl, nn, rfl⟩))
    go_ret3
    exact ⟨by simp [SL, h], (by repeat (first | exact Below.refl _ _ | refine bl_alloc ?_ _ | refine bl_drewN ?_ _ | refine bl_trans (by assumption) ?_ | refine bl_set ?_ (by first | omega | (simp; done) | (simp; omega)) _))⟩
def SE (f : Int → Int → Int) (l a b : Int) : Int := if okB l a b then f (a * l) (l - b) else 0
set_option maxHeartbeats 400000 in
theorem impl_ShadowEnd (l a b : Int) (w : World) :
    Calls Try.prog 8 #[.int .i64 l, .agg #[.int .i64 a, .int .i64 b]] w fun e w' => e = .returned (.tuple #[.int .i64 (SE ln l a b), .int .i64 (SE ld l a b), .bool (okB l a b)]) ∧ Below w.heap.size w w' := by
  cases h : okB l a b
  · go_enter Try.func8, Try.ntmps8
    go_wp2_with (go_at_call 35; refine (impl_isPoleOf _ _ _ _).mono ?_; rintro e w1 ⟨rfl, hb⟩; obtain ⟨hc, hf⟩ := bcell hb; have hz := bsize hb; (try simp only [World.size_alloc] at hz); (try have hz0 : w.heap.size < w1.heap.size := by omega); rw [h])
    go_ret3
    exact ⟨by simp [SE, h], (by repeat (first | exact Below.refl _ _ | refine bl_alloc ?_ _ | refine bl_drewN ?_ _ | refine bl_trans (by assumption) ?_ | refine bl_set ?_ (by first | omega | (simp; done) | (simp; omega)) _))⟩
  · obtain ⟨⟨l0, l1⟩, ⟨a0, a1⟩, ⟨b0, b1⟩, b2⟩ := okB_true h
    obtain ⟨f1, f2⟩ := mul_bd (a := a) (b := l) (m := 500) (by omega) (by omega) (by omega) (by omega)
    go_enter Try.func8, Try.ntmps8
    go_wp2_with (first | (go_at_call 35; refine (impl_isPoleOf _ _ _ _).mono ?_; rintro e w1 ⟨rfl, hb⟩; obtain ⟨hc, hf⟩ := bcell hb; have hz := bsize hb; (try simp only [World.size_alloc] at hz); (try have hz0 : w.heap.size < w1.heap.size := by omega); rw [h]) | (go_at_call 36; refine (toldFraction_any _ _ (by omega) (by omega) (by omega) (by omega) _).mono ?_; rintro e w' ⟨rfl, nn, rfl⟩))
    go_ret3
    exact ⟨by simp [SE, h], (by repeat (first | exact Below.refl _ _ | refine bl_alloc ?_ _ | refine bl_drewN ?_ _ | refine bl_trans (by assumption) ?_ | refine bl_set ?_ (by first | omega | (simp; done) | (simp; omega)) _))⟩
set_option maxHeartbeats 400000 in
theorem spec_ShadowEnd (l a b : Int) (w : World) :
    Calls Try.prog 9 #[.int .i64 l, .agg #[.int .i64 a, .int .i64 b]] w fun e w' => e = .returned (.tuple #[.int .i64 (SE ln l a b), .int .i64 (SE ld l a b), .bool (okB l a b)]) ∧ Below w.heap.size w w' := by
  cases h : okB l a b
  · go_enter Try.func9, Try.ntmps9
    go_wp2_with (go_at_call 37; refine (spec_swBoth _ _ _ _).mono ?_; rintro e w1 ⟨rfl, hb⟩; obtain ⟨hc, hf⟩ := bcell hb; have hz := bsize hb; (try simp only [World.size_alloc] at hz); (try have hz0 : w.heap.size < w1.heap.size := by omega); rw [h])
    go_ret3
    exact ⟨by simp [SE, h], (by repeat (first | exact Below.refl _ _ | refine bl_alloc ?_ _ | refine bl_drewN ?_ _ | refine bl_trans (by assumption) ?_ | refine bl_set ?_ (by first | omega | (simp; done) | (simp; omega)) _))⟩
  · obtain ⟨⟨l0, l1⟩, ⟨a0, a1⟩, ⟨b0, b1⟩, b2⟩ := okB_true h
    obtain ⟨f1, f2⟩ := mul_bd (a := a) (b := l) (m := 500) (by omega) (by omega) (by omega) (by omega)
    go_enter Try.func9, Try.ntmps9
    go_wp2_with (first | (go_at_call 37; refine (spec_swBoth _ _ _ _).mono ?_; rintro e w1 ⟨rfl, hb⟩; obtain ⟨hc, hf⟩ := bcell hb; have hz := bsize hb; (try simp only [World.size_alloc] at hz); (try have hz0 : w.heap.size < w1.heap.size := by omega); rw [h]) | (go_at_call 38; refine (clLow_any _ _ (by omega) (by omega) (by omega) (by omega) _).mono ?_; rintro e w' ⟨rfl, nn, rfl⟩))
    go_ret3
    exact ⟨by simp [SE, h], (by repeat (first | exact Below.refl _ _ | refine bl_alloc ?_ _ | refine bl_drewN ?_ _ | refine bl_trans (by assumption) ?_ | refine bl_set ?_ (by first | omega | (simp; done) | (simp; omega)) _))⟩
def okSU (h r u : Int) : Bool := within h 1 200 && (within r 1 500 && (within u 1 500))
def SU (f : Int → Int → Int) (h r u : Int) : Int := if okSU h r u then f (h * u) (r) else 0
set_option maxHeartbeats 400000 in
theorem impl_SunShadow (h r u : Int) (w : World) :
    Calls Try.prog 20 #[.int .i64 h, .int .i64 r, .int .i64 u] w fun e w' => e = .returned (.tuple #[.int .i64 (SU ln h r u), .int .i64 (SU ld h r u), .bool (okSU h r u)]) ∧ Below w.heap.size w w' := by
  cases g0 : within h 1 200
  · go_enter Try.func20, Try.ntmps20
    go_wp2_with (go_at_call 39; refine (isWithin_any _ _ _ _).mono ?_; rintro e w' ⟨rfl, rfl⟩)
    go_ret3
    exact ⟨by simp [SU, okSU, g0], (by repeat (first | exact Below.refl _ _ | refine bl_alloc ?_ _ | refine bl_drewN ?_ _ | refine bl_trans (by assumption) ?_ | refine bl_set ?_ (by first | omega | (simp; done) | (simp; omega)) _))⟩
  · skip
    cases g1 : within r 1 500
    · go_enter Try.func20, Try.ntmps20
      go_wp2_with (go_at_call 39; refine (isWithin_any _ _ _ _).mono ?_; rintro e w' ⟨rfl, rfl⟩)
      go_ret3
      exact ⟨by simp [SU, okSU, g0, g1], (by repeat (first | exact Below.refl _ _ | refine bl_alloc ?_ _ | refine bl_drewN ?_ _ | refine bl_trans (by assumption) ?_ | refine bl_set ?_ (by first | omega | (simp; done) | (simp; omega)) _))⟩
    · skip
      cases g2 : within u 1 500
      · go_enter Try.func20, Try.ntmps20
        go_wp2_with (go_at_call 39; refine (isWithin_any _ _ _ _).mono ?_; rintro e w' ⟨rfl, rfl⟩)
        go_ret3
        exact ⟨by simp [SU, okSU, g0, g1, g2], (by repeat (first | exact Below.refl _ _ | refine bl_alloc ?_ _ | refine bl_drewN ?_ _ | refine bl_trans (by assumption) ?_ | refine bl_set ?_ (by first | omega | (simp; done) | (simp; omega)) _))⟩
      · skip
        have t0 := within_true g0
        have t1 := within_true g1
        have t2 := within_true g2
        obtain ⟨f1, f2⟩ := mul_bd (a := h) (b := u) (m := 500) (by omega) (by omega) (by omega) (by omega)
        go_enter Try.func20, Try.ntmps20
        go_wp2_with (first | (go_at_call 39; refine (isWithin_any _ _ _ _).mono ?_; rintro e w' ⟨rfl, rfl⟩) | (go_at_call 36; refine (toldFraction_any _ _ (by omega) (by omega) (by omega) (by omega) _).mono ?_; rintro e w' ⟨rfl, nn, rfl⟩))
        go_ret3
        exact ⟨by simp [SU, okSU, g0, g1, g2], (by repeat (first | exact Below.refl _ _ | refine bl_alloc ?_ _ | refine bl_drewN ?_ _ | refine bl_trans (by assumption) ?_ | refine bl_set ?_ (by first | omega | (simp; done) | (simp; omega)) _))⟩
set_option maxHeartbeats 400000 in
theorem spec_SunShadow (h r u : Int) (w : World) :
    Calls Try.prog 21 #[.int .i64 h, .int .i64 r, .int .i64 u] w fun e w' => e = .returned (.tuple #[.int .i64 (SU ln h r u), .int .i64 (SU ld h r u), .bool (okSU h r u)]) ∧ Below w.heap.size w w' := by
  cases g0 : within h 1 200
  · go_enter Try.func21, Try.ntmps21
    go_wp2_with (go_at_call 41; refine (l1In_any _ _ _ _).mono ?_; rintro e w' ⟨rfl, rfl⟩)
    go_ret3
    exact ⟨by simp [SU, okSU, g0], (by repeat (first | exact Below.refl _ _ | refine bl_alloc ?_ _ | refine bl_drewN ?_ _ | refine bl_trans (by assumption) ?_ | refine bl_set ?_ (by first | omega | (simp; done) | (simp; omega)) _))⟩
  · skip
    cases g1 : within r 1 500
    · go_enter Try.func21, Try.ntmps21
      go_wp2_with (go_at_call 41; refine (l1In_any _ _ _ _).mono ?_; rintro e w' ⟨rfl, rfl⟩)
      go_ret3
      exact ⟨by simp [SU, okSU, g0, g1], (by repeat (first | exact Below.refl _ _ | refine bl_alloc ?_ _ | refine bl_drewN ?_ _ | refine bl_trans (by assumption) ?_ | refine bl_set ?_ (by first | omega | (simp; done) | (simp; omega)) _))⟩
    · skip
      cases g2 : within u 1 500
      · go_enter Try.func21, Try.ntmps21
        go_wp2_with (go_at_call 41; refine (l1In_any _ _ _ _).mono ?_; rintro e w' ⟨rfl, rfl⟩)
        go_ret3
        exact ⟨by simp [SU, okSU, g0, g1, g2], (by repeat (first | exact Below.refl _ _ | refine bl_alloc ?_ _ | refine bl_drewN ?_ _ | refine bl_trans (by assumption) ?_ | refine bl_set ?_ (by first | omega | (simp; done) | (simp; omega)) _))⟩
      · skip
        have t0 := within_true g0
        have t1 := within_true g1
        have t2 := within_true g2
        obtain ⟨f1, f2⟩ := mul_bd (a := h) (b := u) (m := 500) (by omega) (by omega) (by omega) (by omega)
        go_enter Try.func21, Try.ntmps21
        go_wp2_with (first | (go_at_call 41; refine (l1In_any _ _ _ _).mono ?_; rintro e w' ⟨rfl, rfl⟩) | (go_at_call 38; refine (clLow_any _ _ (by omega) (by omega) (by omega) (by omega) _).mono ?_; rintro e w' ⟨rfl, nn, rfl⟩))
        go_ret3
        exact ⟨by simp [SU, okSU, g0, g1, g2], (by repeat (first | exact Below.refl _ _ | refine bl_alloc ?_ _ | refine bl_drewN ?_ _ | refine bl_trans (by assumption) ?_ | refine bl_set ?_ (by first | omega | (simp; done) | (simp; omega)) _))⟩
def okSP (h s : Int) : Bool := within h 1 200 && (within s 1 500)
def SP (f : Int → Int → Int) (h s : Int) : Int := if okSP h s then f (h) (s) else 0
set_option maxHeartbeats 400000 in
theorem impl_SunSlope (h s : Int) (w : World) :
    Calls Try.prog 29 #[.int .i64 h, .int .i64 s] w fun e w' => e = .returned (.tuple #[.int .i64 (SP ln h s), .int .i64 (SP ld h s), .bool (okSP h s)]) ∧ Below w.heap.size w w' := by
  cases g0 : within h 1 200
  · go_enter Try.func29, Try.ntmps29
    go_wp2_with (go_at_call 39; refine (isWithin_any _ _ _ _).mono ?_; rintro e w' ⟨rfl, rfl⟩)
    go_ret3
    exact ⟨by simp [SP, okSP, g0], (by repeat (first | exact Below.refl _ _ | refine bl_alloc ?_ _ | refine bl_drewN ?_ _ | refine bl_trans (by assumption) ?_ | refine bl_set ?_ (by first | omega | (simp; done) | (simp; omega)) _))⟩
  · skip
    cases g1 : within s 1 500
    · go_enter Try.func29, Try.ntmps29
      go_wp2_with (go_at_call 39; refine (isWithin_any _ _ _ _).mono ?_; rintro e w' ⟨rfl, rfl⟩)
      go_ret3
      exact ⟨by simp [SP, okSP, g0, g1], (by repeat (first | exact Below.refl _ _ | refine bl_alloc ?_ _ | refine bl_drewN ?_ _ | refine bl_trans (by assumption) ?_ | refine bl_set ?_ (by first | omega | (simp; done) | (simp; omega)) _))⟩
    · skip
      have t0 := within_true g0
      have t1 := within_true g1
      go_enter Try.func29, Try.ntmps29
      go_wp2_with (first | (go_at_call 39; refine (isWithin_any _ _ _ _).mono ?_; rintro e w' ⟨rfl, rfl⟩) | (go_at_call 36; refine (toldFraction_any _ _ (by omega) (by omega) (by omega) (by omega) _).mono ?_; rintro e w' ⟨rfl, nn, rfl⟩))
      go_ret3
      exact ⟨by simp [SP, okSP, g0, g1], (by repeat (first | exact Below.refl _ _ | refine bl_alloc ?_ _ | refine bl_drewN ?_ _ | refine bl_trans (by assumption) ?_ | refine bl_set ?_ (by first | omega | (simp; done) | (simp; omega)) _))⟩
set_option maxHeartbeats 400000 in
theorem spec_SunSlope (h s : Int) (w : World) :
    Calls Try.prog 30 #[.int .i64 h, .int .i64 s] w fun e w' => e = .returned (.tuple #[.int .i64 (SP ln h s), .int .i64 (SP ld h s), .bool (okSP h s)]) ∧ Below w.heap.size w w' := by
  cases g0 : within h 1 200
  · go_enter Try.func30, Try.ntmps30
    go_wp2_with (go_at_call 41; refine (l1In_any _ _ _ _).mono ?_; rintro e w' ⟨rfl, rfl⟩)
    go_ret3
    exact ⟨by simp [SP, okSP, g0], (by repeat (first | exact Below.refl _ _ | refine bl_alloc ?_ _ | refine bl_drewN ?_ _ | refine bl_trans (by assumption) ?_ | refine bl_set ?_ (by first | omega | (simp; done) | (simp; omega)) _))⟩
  · skip
    cases g1 : within s 1 500
    · go_enter Try.func30, Try.ntmps30
      go_wp2_with (go_at_call 41; refine (l1In_any _ _ _ _).mono ?_; rintro e w' ⟨rfl, rfl⟩)
      go_ret3
      exact ⟨by simp [SP, okSP, g0, g1], (by repeat (first | exact Below.refl _ _ | refine bl_alloc ?_ _ | refine bl_drewN ?_ _ | refine bl_trans (by assumption) ?_ | refine bl_set ?_ (by first | omega | (simp; done) | (simp; omega)) _))⟩
    · skip
      have t0 := within_true g0
      have t1 := within_true g1
      go_enter Try.func30, Try.ntmps30
      go_wp2_with (first | (go_at_call 41; refine (l1In_any _ _ _ _).mono ?_; rintro e w' ⟨rfl, rfl⟩) | (go_at_call 38; refine (clLow_any _ _ (by omega) (by omega) (by omega) (by omega) _).mono ?_; rintro e w' ⟨rfl, nn, rfl⟩))
      go_ret3
      exact ⟨by simp [SP, okSP, g0, g1], (by repeat (first | exact Below.refl _ _ | refine bl_alloc ?_ _ | refine bl_drewN ?_ _ | refine bl_trans (by assumption) ?_ | refine bl_set ?_ (by first | omega | (simp; done) | (simp; omega)) _))⟩
def okPS (l p s : Int) : Bool := okM l && (within p 1 500 && (within s 1 500))
def PS (f : Int → Int → Int) (l p s : Int) : Int := if okPS l p s then f (l * s) (p + s) else 0
set_option maxHeartbeats 400000 in
theorem impl_PoleOfShadow (l p s : Int) (w : World) :
    Calls Try.prog 16 #[.int .i64 l, .int .i64 p, .int .i64 s] w fun e w' => e = .returned (.tuple #[.int .i64 (PS ln l p s), .int .i64 (PS ld l p s), .bool (okPS l p s)]) ∧ Below w.heap.size w w' := by
  cases g0 : okM l
  · go_enter Try.func16, Try.ntmps16
    go_wp2_with (first | (go_at_call 44; refine (impl_isLamp _ _).mono ?_; rintro e w' ⟨rfl, rfl⟩; rw [g0]) | (go_at_call 39; refine (isWithin_any _ _ _ _).mono ?_; rintro e w' ⟨rfl, rfl⟩))
    go_ret3
    exact ⟨by simp [PS, okPS, g0], (by repeat (first | exact Below.refl _ _ | refine bl_alloc ?_ _ | refine bl_drewN ?_ _ | refine bl_trans (by assumption) ?_ | refine bl_set ?_ (by first | omega | (simp; done) | (simp; omega)) _))⟩
  · skip
    cases g1 : within p 1 500
    · obtain ⟨t0, t1⟩ := okM_true g0
      go_enter Try.func16, Try.ntmps16
      go_wp2_with (first | (go_at_call 44; refine (impl_isLamp _ _).mono ?_; rintro e w' ⟨rfl, rfl⟩; rw [g0]) | (go_at_call 39; refine (isWithin_any _ _ _ _).mono ?_; rintro e w' ⟨rfl, rfl⟩))
      go_ret3
      exact ⟨by simp [PS, okPS, g0, g1], (by repeat (first | exact Below.refl _ _ | refine bl_alloc ?_ _ | refine bl_drewN ?_ _ | refine bl_trans (by assumption) ?_ | refine bl_set ?_ (by first | omega | (simp; done) | (simp; omega)) _))⟩
    · skip
      cases g2 : within s 1 500
      · obtain ⟨t0, t1⟩ := okM_true g0
        go_enter Try.func16, Try.ntmps16
        go_wp2_with (first | (go_at_call 44; refine (impl_isLamp _ _).mono ?_; rintro e w' ⟨rfl, rfl⟩; rw [g0]) | (go_at_call 39; refine (isWithin_any _ _ _ _).mono ?_; rintro e w' ⟨rfl, rfl⟩))
        go_ret3
        exact ⟨by simp [PS, okPS, g0, g1, g2], (by repeat (first | exact Below.refl _ _ | refine bl_alloc ?_ _ | refine bl_drewN ?_ _ | refine bl_trans (by assumption) ?_ | refine bl_set ?_ (by first | omega | (simp; done) | (simp; omega)) _))⟩
      · skip
        have t0 := okM_true g0
        have t1 := within_true g1
        have t2 := within_true g2
        obtain ⟨f1, f2⟩ := mul_bd (a := l) (b := s) (m := 500) (by omega) (by omega) (by omega) (by omega)
        go_enter Try.func16, Try.ntmps16
        go_wp2_with (first | (go_at_call 44; refine (impl_isLamp _ _).mono ?_; rintro e w' ⟨rfl, rfl⟩; rw [g0]) | (go_at_call 39; refine (isWithin_any _ _ _ _).mono ?_; rintro e w' ⟨rfl, rfl⟩) | (go_at_call 36; refine (toldFraction_any _ _ (by omega) (by omega) (by omega) (by omega) _).mono ?_; rintro e w' ⟨rfl, nn, rfl⟩))
        go_ret3
        exact ⟨by simp [PS, okPS, g0, g1, g2], (by repeat (first | exact Below.refl _ _ | refine bl_alloc ?_ _ | refine bl_drewN ?_ _ | refine bl_trans (by assumption) ?_ | refine bl_set ?_ (by first | omega | (simp; done) | (simp; omega)) _))⟩
set_option maxHeartbeats 400000 in
theorem spec_PoleOfShadow (l p s : Int) (w : World) :
    Calls Try.prog 25 #[.int .i64 l, .int .i64 p, .int .i64 s] w fun e w' => e = .returned (.tuple #[.int .i64 (PS ln l p s), .int .i64 (PS ld l p s), .bool (okPS l p s)]) ∧ Below w.heap.size w w' := by
  cases g0 : okM l
  · go_enter Try.func25, Try.ntmps25
    go_wp2_with (first | (go_at_call 47; refine (spec_swLamp _ _).mono ?_; rintro e w' ⟨rfl, rfl⟩; rw [g0]) | (go_at_call 41; refine (l1In_any _ _ _ _).mono ?_; rintro e w' ⟨rfl, rfl⟩))
    go_ret3
    exact ⟨by simp [PS, okPS, g0], (by repeat (first | exact Below.refl _ _ | refine bl_alloc ?_ _ | refine bl_drewN ?_ _ | refine bl_trans (by assumption) ?_ | refine bl_set ?_ (by first | omega | (simp; done) | (simp; omega)) _))⟩
  · skip
    cases g1 : within p 1 500
    · obtain ⟨t0, t1⟩ := okM_true g0
      go_enter Try.func25, Try.ntmps25
      go_wp2_with (first | (go_at_call 47; refine (spec_swLamp _ _).mono ?_; rintro e w' ⟨rfl, rfl⟩; rw [g0]) | (go_at_call 41; refine (l1In_any _ _ _ _).mono ?_; rintro e w' ⟨rfl, rfl⟩))
      go_ret3
      exact ⟨by simp [PS, okPS, g0, g1], (by repeat (first | exact Below.refl _ _ | refine bl_alloc ?_ _ | refine bl_drewN ?_ _ | refine bl_trans (by assumption) ?_ | refine bl_set ?_ (by first | omega | (simp; done) | (simp; omega)) _))⟩
    · skip
      cases g2 : within s 1 500
      · obtain ⟨t0, t1⟩ := okM_true g0
        go_enter Try.func25, Try.ntmps25
        go_wp2_with (first | (go_at_call 47; refine (spec_swLamp _ _).mono ?_; rintro e w' ⟨rfl, rfl⟩; rw [g0]) | (go_at_call 41; refine (l1In_any _ _ _ _).mono ?_; rintro e w' ⟨rfl, rfl⟩))
        go_ret3
        exact ⟨by simp [PS, okPS, g0, g1, g2], (by repeat (first | exact Below.refl _ _ | refine bl_alloc ?_ _ | refine bl_drewN ?_ _ | refine bl_trans (by assumption) ?_ | refine bl_set ?_ (by first | omega | (simp; done) | (simp; omega)) _))⟩
      · skip
        have t0 := okM_true g0
        have t1 := within_true g1
        have t2 := within_true g2
        obtain ⟨f1, f2⟩ := mul_bd (a := l) (b := s) (m := 500) (by omega) (by omega) (by omega) (by omega)
        go_enter Try.func25, Try.ntmps25
        go_wp2_with (first | (go_at_call 47; refine (spec_swLamp _ _).mono ?_; rintro e w' ⟨rfl, rfl⟩; rw [g0]) | (go_at_call 41; refine (l1In_any _ _ _ _).mono ?_; rintro e w' ⟨rfl, rfl⟩) | (go_at_call 38; refine (clLow_any _ _ (by omega) (by omega) (by omega) (by omega) _).mono ?_; rintro e w' ⟨rfl, nn, rfl⟩))
        go_ret3
        exact ⟨by simp [PS, okPS, g0, g1, g2], (by repeat (first | exact Below.refl _ _ | refine bl_alloc ?_ _ | refine bl_drewN ?_ _ | refine bl_trans (by assumption) ?_ | refine bl_set ?_ (by first | omega | (simp; done) | (simp; omega)) _))⟩
def okPL (l h s : Int) : Bool := okM l && (within h 1 (l - 1) && (within s 1 500))
def PL (f : Int → Int → Int) (l h s : Int) : Int := if okPL l h s then f (s * (l - h)) (h) else 0
set_option maxHeartbeats 400000 in
theorem impl_PlaceOfShadow (l h s : Int) (w : World) :
    Calls Try.prog 17 #[.int .i64 l, .int .i64 h, .int .i64 s] w fun e w' => e = .returned (.tuple #[.int .i64 (PL ln l h s), .int .i64 (PL ld l h s), .bool (okPL l h s)]) ∧ Below w.heap.size w w' := by
  cases g0 : okM l
  · go_enter Try.func17, Try.ntmps17
    go_wp2_with (first | (go_at_call 44; refine (impl_isLamp _ _).mono ?_; rintro e w' ⟨rfl, rfl⟩; rw [g0]) | (go_at_call 39; refine (isWithin_any _ _ _ _).mono ?_; rintro e w' ⟨rfl, rfl⟩))
    go_ret3
    exact ⟨by simp [PL, okPL, g0], (by repeat (first | exact Below.refl _ _ | refine bl_alloc ?_ _ | refine bl_drewN ?_ _ | refine bl_trans (by assumption) ?_ | refine bl_set ?_ (by first | omega | (simp; done) | (simp; omega)) _))⟩
  · skip
    cases g1 : within h 1 (l - 1)
    · obtain ⟨t0, t1⟩ := okM_true g0
      go_enter Try.func17, Try.ntmps17
      go_wp2_with (first | (go_at_call 44; refine (impl_isLamp _ _).mono ?_; rintro e w' ⟨rfl, rfl⟩; rw [g0]) | (go_at_call 39; refine (isWithin_any _ _ _ _).mono ?_; rintro e w' ⟨rfl, rfl⟩))
      go_ret3
      exact ⟨by simp [PL, okPL, g0, g1], (by repeat (first | exact Below.refl _ _ | refine bl_alloc ?_ _ | refine bl_drewN ?_ _ | refine bl_trans (by assumption) ?_ | refine bl_set ?_ (by first | omega | (simp; done) | (simp; omega)) _))⟩
    · skip
      cases g2 : within s 1 500
      · obtain ⟨t0, t1⟩ := okM_true g0
        go_enter Try.func17, Try.ntmps17
        go_wp2_with (first | (go_at_call 44; refine (impl_isLamp _ _).mono ?_; rintro e w' ⟨rfl, rfl⟩; rw [g0]) | (go_at_call 39; refine (isWithin_any _ _ _ _).mono ?_; rintro e w' ⟨rfl, rfl⟩))
        go_ret3
        exact ⟨by simp [PL, okPL, g0, g1, g2], (by repeat (first | exact Below.refl _ _ | refine bl_alloc ?_ _ | refine bl_drewN ?_ _ | refine bl_trans (by assumption) ?_ | refine bl_set ?_ (by first | omega | (simp; done) | (simp; omega)) _))⟩
      · skip
        have t0 := okM_true g0
        have t1 := within_true g1
        have t2 := within_true g2
        obtain ⟨f1, f2⟩ := mul_bd (a := s) (b := l - h) (m := 500) (by omega) (by omega) (by omega) (by omega)
        go_enter Try.func17, Try.ntmps17
        go_wp2_with (first | (go_at_call 44; refine (impl_isLamp _ _).mono ?_; rintro e w' ⟨rfl, rfl⟩; rw [g0]) | (go_at_call 39; refine (isWithin_any _ _ _ _).mono ?_; rintro e w' ⟨rfl, rfl⟩) | (go_at_call 36; refine (toldFraction_any _ _ (by omega) (by omega) (by omega) (by omega) _).mono ?_; rintro e w' ⟨rfl, nn, rfl⟩))
        go_ret3
        exact ⟨by simp [PL, okPL, g0, g1, g2], (by repeat (first | exact Below.refl _ _ | refine bl_alloc ?_ _ | refine bl_drewN ?_ _ | refine bl_trans (by assumption) ?_ | refine bl_set ?_ (by first | omega | (simp; done) | (simp; omega)) _))⟩
set_option maxHeartbeats 400000 in
theorem spec_PlaceOfShadow (l h s : Int) (w : World) :
    Calls Try.prog 27 #[.int .i64 l, .int .i64 h, .int .i64 s] w fun e w' => e = .returned (.tuple #[.int .i64 (PL ln l h s), .int .i64 (PL ld l h s), .bool (okPL l h s)]) ∧ Below w.heap.size w w' := by
  cases g0 : okM l
  · go_enter Try.func27, Try.ntmps27
    go_wp2_with (first | (go_at_call 47; refine (spec_swLamp _ _).mono ?_; rintro e w' ⟨rfl, rfl⟩; rw [g0]) | (go_at_call 41; refine (l1In_any _ _ _ _).mono ?_; rintro e w' ⟨rfl, rfl⟩))
    go_ret3
    exact ⟨by simp [PL, okPL, g0], (by repeat (first | exact Below.refl _ _ | refine bl_alloc ?_ _ | refine bl_drewN ?_ _ | refine bl_trans (by assumption) ?_ | refine bl_set ?_ (by first | omega | (simp; done) | (simp; omega)) _))⟩
  · skip
    cases g1 : within h 1 (l - 1)
    · obtain ⟨t0, t1⟩ := okM_true g0
      go_enter Try.func27, Try.ntmps27
      go_wp2_with (first | (go_at_call 47; refine (spec_swLamp _ _).mono ?_; rintro e w' ⟨rfl, rfl⟩; rw [g0]) | (go_at_call 41; refine (l1In_any _ _ _ _).mono ?_; rintro e w' ⟨rfl, rfl⟩))
      go_ret3
      exact ⟨by simp [PL, okPL, g0, g1], (by repeat (first | exact Below.refl _ _ | refine bl_alloc ?_ _ | refine bl_drewN ?_ _ | refine bl_trans (by assumption) ?_ | refine bl_set ?_ (by first | omega | (simp; done) | (simp; omega)) _))⟩
    · skip
      cases g2 : within s 1 500
      · obtain ⟨t0, t1⟩ := okM_true g0
        go_enter Try.func27, Try.ntmps27
        go_wp2_with (first | (go_at_call 47; refine (spec_swLamp _ _).mono ?_; rintro e w' ⟨rfl, rfl⟩; rw [g0]) | (go_at_call 41; refine (l1In_any _ _ _ _).mono ?_; rintro e w' ⟨rfl, rfl⟩))
        go_ret3
        exact ⟨by simp [PL, okPL, g0, g1, g2], (by repeat (first | exact Below.refl _ _ | refine bl_alloc ?_ _ | refine bl_drewN ?_ _ | refine bl_trans (by assumption) ?_ | refine bl_set ?_ (by first | omega | (simp; done) | (simp; omega)) _))⟩
      · skip
        have t0 := okM_true g0
        have t1 := within_true g1
        have t2 := within_true g2
        obtain ⟨f1, f2⟩ := mul_bd (a := s) (b := l - h) (m := 500) (by omega) (by omega) (by omega) (by omega)
        go_enter Try.func27, Try.ntmps27
        go_wp2_with (first | (go_at_call 47; refine (spec_swLamp _ _).mono ?_; rintro e w' ⟨rfl, rfl⟩; rw [g0]) | (go_at_call 41; refine (l1In_any _ _ _ _).mono ?_; rintro e w' ⟨rfl, rfl⟩) | (go_at_call 38; refine (clLow_any _ _ (by omega) (by omega) (by omega) (by omega) _).mono ?_; rintro e w' ⟨rfl, nn, rfl⟩))
        go_ret3
        exact ⟨by simp [PL, okPL, g0, g1, g2], (by repeat (first | exact Below.refl _ _ | refine bl_alloc ?_ _ | refine bl_drewN ?_ _ | refine bl_trans (by assumption) ?_ | refine bl_set ?_ (by first | omega | (simp; done) | (simp; omega)) _))⟩
def okLS (a b s : Int) : Bool := okP a b && within s 1 500
def LS (f : Int → Int → Int) (a b s : Int) : Int := if okLS a b s then f (b * (a + s)) s else 0
set_option maxHeartbeats 400000 in
theorem impl_LampOfShadow (a b s : Int) (w : World) :
    Calls Try.prog 15 #[.agg #[.int .i64 a, .int .i64 b], .int .i64 s] w fun e w' => e = .returned (.tuple #[.int .i64 (LS ln a b s), .int .i64 (LS ld a b s), .bool (okLS a b s)]) ∧ Below w.heap.size w w' := by
  cases g0 : okP a b
  · go_enter Try.func15, Try.ntmps15
    go_wp2_with (go_at_call 43; refine (impl_isPole _ _ _).mono ?_; rintro e w1 ⟨rfl, hb⟩; obtain ⟨hc, hf⟩ := bcell hb; have hz := bsize hb; (try simp only [World.size_alloc] at hz); (try have hz0 : w.heap.size < w1.heap.size := by omega); rw [g0])
    go_ret3
    exact ⟨by simp [LS, okLS, g0], (by repeat (first | exact Below.refl _ _ | refine bl_alloc ?_ _ | refine bl_drewN ?_ _ | refine bl_trans (by assumption) ?_ | refine bl_set ?_ (by first | omega | (simp; done) | (simp; omega)) _))⟩
  · cases g1 : within s 1 500
    · go_enter Try.func15, Try.ntmps15
      go_wp2_with (first | (go_at_call 43; refine (impl_isPole _ _ _).mono ?_; rintro e w1 ⟨rfl, hb⟩; obtain ⟨hc, hf⟩ := bcell hb; have hz := bsize hb; (try simp only [World.size_alloc] at hz); (try have hz0 : w.heap.size < w1.heap.size := by omega); rw [g0]) | (go_at_call 39; refine (isWithin_any _ _ _ _).mono ?_; rintro e w' ⟨rfl, rfl⟩))
      go_ret3
      exact ⟨by simp [LS, okLS, g0, g1], (by repeat (first | exact Below.refl _ _ | refine bl_alloc ?_ _ | refine bl_drewN ?_ _ | refine bl_trans (by assumption) ?_ | refine bl_set ?_ (by first | omega | (simp; done) | (simp; omega)) _))⟩
    · obtain ⟨⟨a0, a1⟩, b0, b1⟩ := okP_true g0
      have t := within_true g1
      obtain ⟨f1, f2⟩ := mul_bd (a := b) (b := a + s) (m := 1000) (by omega) (by omega) (by omega) (by omega)
      go_enter Try.func15, Try.ntmps15
      go_wp2_with (first | (go_at_call 43; refine (impl_isPole _ _ _).mono ?_; rintro e w1 ⟨rfl, hb⟩; obtain ⟨hc, hf⟩ := bcell hb; have hz := bsize hb; (try simp only [World.size_alloc] at hz); (try have hz0 : w.heap.size < w1.heap.size := by omega); rw [g0]) | (go_at_call 39; refine (isWithin_any _ _ _ _).mono ?_; rintro e w' ⟨rfl, rfl⟩) | (go_at_call 36; refine (toldFraction_any _ _ (by omega) (by omega) (by omega) (by omega) _).mono ?_; rintro e w' ⟨rfl, nn, rfl⟩))
      go_ret3
      exact ⟨by simp [LS, okLS, g0, g1], (by repeat (first | exact Below.refl _ _ | refine bl_alloc ?_ _ | refine bl_drewN ?_ _ | refine bl_trans (by assumption) ?_ | refine bl_set ?_ (by first | omega | (simp; done) | (simp; omega)) _))⟩
set_option maxHeartbeats 400000 in
theorem spec_LampOfShadow (a b s : Int) (w : World) :
    Calls Try.prog 23 #[.agg #[.int .i64 a, .int .i64 b], .int .i64 s] w fun e w' => e = .returned (.tuple #[.int .i64 (LS ln a b s), .int .i64 (LS ld a b s), .bool (okLS a b s)]) ∧ Below w.heap.size w w' := by
  cases g0 : okP a b
  · go_enter Try.func23, Try.ntmps23
    go_wp2_with (go_at_call 46; refine (spec_swPole _ _ _).mono ?_; rintro e w1 ⟨rfl, hb⟩; obtain ⟨hc, hf⟩ := bcell hb; have hz := bsize hb; (try simp only [World.size_alloc] at hz); (try have hz0 : w.heap.size < w1.heap.size := by omega); rw [g0])
    go_ret3
    exact ⟨by simp [LS, okLS, g0], (by repeat (first | exact Below.refl _ _ | refine bl_alloc ?_ _ | refine bl_drewN ?_ _ | refine bl_trans (by assumption) ?_ | refine bl_set ?_ (by first | omega | (simp; done) | (simp; omega)) _))⟩
  · cases g1 : within s 1 500
    · go_enter Try.func23, Try.ntmps23
      go_wp2_with (first | (go_at_call 46; refine (spec_swPole _ _ _).mono ?_; rintro e w1 ⟨rfl, hb⟩; obtain ⟨hc, hf⟩ := bcell hb; have hz := bsize hb; (try simp only [World.size_alloc] at hz); (try have hz0 : w.heap.size < w1.heap.size := by omega); rw [g0]) | (go_at_call 41; refine (l1In_any _ _ _ _).mono ?_; rintro e w' ⟨rfl, rfl⟩))
      go_ret3
      exact ⟨by simp [LS, okLS, g0, g1], (by repeat (first | exact Below.refl _ _ | refine bl_alloc ?_ _ | refine bl_drewN ?_ _ | refine bl_trans (by assumption) ?_ | refine bl_set ?_ (by first | omega | (simp; done) | (simp; omega)) _))⟩
    · obtain ⟨⟨a0, a1⟩, b0, b1⟩ := okP_true g0
      have t := within_true g1
      obtain ⟨f1, f2⟩ := mul_bd (a := b) (b := a + s) (m := 1000) (by omega) (by omega) (by omega) (by omega)
      go_enter Try.func23, Try.ntmps23
      go_wp2_with (first | (go_at_call 46; refine (spec_swPole _ _ _).mono ?_; rintro e w1 ⟨rfl, hb⟩; obtain ⟨hc, hf⟩ := bcell hb; have hz := bsize hb; (try simp only [World.size_alloc] at hz); (try have hz0 : w.heap.size < w1.heap.size := by omega); rw [g0]) | (go_at_call 41; refine (l1In_any _ _ _ _).mono ?_; rintro e w' ⟨rfl, rfl⟩) | (go_at_call 38; refine (clLow_any _ _ (by omega) (by omega) (by omega) (by omega) _).mono ?_; rintro e w' ⟨rfl, nn, rfl⟩))
      go_ret3
      exact ⟨by simp [LS, okLS, g0, g1], (by repeat (first | exact Below.refl _ _ | refine bl_alloc ?_ _ | refine bl_drewN ?_ _ | refine bl_trans (by assumption) ?_ | refine bl_set ?_ (by first | omega | (simp; done) | (simp; omega)) _))⟩

def line (l a b x : Int) : Int := l * a - (l - b) * x
def hgt (l a b x : Int) : Int := max 0 (line l a b x)
def okW (l a b x : Int) : Bool := okB l a b && within x (a + 1) 500
def HH (f : Int → Int → Int) (l a b x : Int) : Int := if okW l a b x then f (hgt l a b x) a else 0
theorem line_bd {l a b x : Int} (h : okB l a b = true) (x0 : 0 ≤ x) (x1 : x ≤ 501) : (0 ≤ l * a ∧ l * a ≤ 250000) ∧ (0 ≤ (l - b) * x ∧ (l - b) * x ≤ 251001) ∧ -251001 ≤ line l a b x ∧ line l a b x ≤ 250000 := by
  obtain ⟨⟨l0, l1⟩, ⟨a0, a1⟩, ⟨b0, b1⟩, b2⟩ := okB_true h
  have f1 := mul_bd (a := l) (b := a) (m := 500) (by omega) (by omega) (by omega) (by omega)
  have f2 := mul_bd (a := l - b) (b := x) (m := 501) (by omega) (by omega) (by omega) (by omega)
  unfold line
  omega
theorem ln_zero (a : Int) : ln 0 a = 0 := by simp [ln]
theorem ld_zero {a : Int} (h : 1 ≤ a) : ld 0 a = 1 := by
  obtain ⟨n, rfl⟩ := Int.eq_ofNat_of_zero_le (show 0 ≤ a by omega)
  simp only [ld]
  simp
  exact Int.ediv_self (by omega)
set_option maxHeartbeats 400000 in
theorem lineTimesPlace_any (l a b x : Int) (h : okB l a b = true) (x0 : 0 ≤ x) (x1 : x ≤ 501) (w : World) :
    Calls Try.prog 40 #[.int .i64 l, .agg #[.int .i64 a, .int .i64 b], .int .i64 x] w fun e w' => e = .returned (.int .i64 (line l a b x)) ∧ Below w.heap.size w w' := by
  obtain ⟨⟨l0, l1⟩, ⟨a0, a1⟩, ⟨b0, b1⟩, b2⟩ := okB_true h
  obtain ⟨⟨f1, f2⟩, ⟨f3, f4⟩, f5, f6⟩ := line_bd h x0 x1
  have e0 := Lib.hid (show line l a b x = l * a - (l - b) * x from rfl)
  go_enter Try.func40, Try.ntmps40
  go_wp2
  go_ret
  exact ⟨ret_int e0.out.symm, (by repeat (first | exact Below.refl _ _ | refine bl_alloc ?_ _ | refine bl_drewN ?_ _ | refine bl_trans (by assumption) ?_ | refine bl_set ?_ (by first | omega | (simp; done) | (simp; omega)) _))⟩
set_option maxHeartbeats 400000 in
theorem impl_ShadowOnWall (l a b x : Int) (w : World) :
    Calls Try.prog 10 #[.int .i64 l, .agg #[.int .i64 a, .int .i64 b], .int .i64 x] w fun e w' => e = .returned (.tuple #[.int .i64 (HH ln l a b x), .int .i64 (HH ld l a b x), .bool (okW l a b x)]) ∧ Below w.heap.size w w' := by
  cases h : okB l a b
  · go_enter Try.func10, Try.ntmps10
    go_wp2_with (go_at_call 35; refine (impl_isPoleOf _ _ _ _).mono ?_; rintro e w1 ⟨rfl, hb⟩; obtain ⟨hc, hf⟩ := bcell hb; have hz := bsize hb; (try simp only [World.size_alloc] at hz); (try have hz0 : w.heap.size < w1.heap.size := by omega); rw [h])
    go_ret3
    exact ⟨by simp [HH, okW, h], (by repeat (first | exact Below.refl _ _ | refine bl_alloc ?_ _ | refine bl_drewN ?_ _ | refine bl_trans (by assumption) ?_ | refine bl_set ?_ (by first | omega | (simp; done) | (simp; omega)) _))⟩
  · obtain ⟨⟨l0, l1⟩, ⟨a0, a1⟩, ⟨b0, b1⟩, b2⟩ := okB_true h
    cases g : within x (a + 1) 500
    · go_enter Try.func10, Try.ntmps10
      go_wp2_with (first | (go_at_call 35; refine (impl_isPoleOf _ _ _ _).mono ?_; rintro e w1 ⟨rfl, hb⟩; obtain ⟨hc, hf⟩ := bcell hb; have hz := bsize hb; (try simp only [World.size_alloc] at hz); (try have hz0 : w.heap.size < w1.heap.size := by omega); rw [h]) | (go_at_call 39; refine (isWithin_any _ _ _ _).mono ?_; rintro e w' ⟨rfl, rfl⟩))
      go_ret3
      exact ⟨by simp [HH, okW, h, g], (by repeat (first | exact Below.refl _ _ | refine bl_alloc ?_ _ | refine bl_drewN ?_ _ | refine bl_trans (by assumption) ?_ | refine bl_set ?_ (by first | omega | (simp; done) | (simp; omega)) _))⟩
    · have t := within_true g
      obtain ⟨_, _, f5, f6⟩ := line_bd (x := x) h (by omega) (by omega)
      have HB := Lib.hid h
      by_cases m : 0 < line l a b x
      · have M := Lib.hid (show hgt l a b x = line l a b x by unfold hgt; omega)
        go_enter Try.func10, Try.ntmps10
        go_wp2_with (first | (go_at_call 35; refine (impl_isPoleOf _ _ _ _).mono ?_; rintro e w1 ⟨rfl, hb⟩; obtain ⟨hc, hf⟩ := bcell hb; have hz := bsize hb; (try simp only [World.size_alloc] at hz); (try have hz0 : w.heap.size < w1.heap.size := by omega); rw [h]) | (go_at_call 39; refine (isWithin_any _ _ _ _).mono ?_; rintro e w' ⟨rfl, rfl⟩))
        have hS : w1.cell? ⟨w.heap.size, 0, none⟩ = some (.int .i64 a) ∧ w1.cell? ⟨w.heap.size, 1, none⟩ = some (.int .i64 b) ∧ w.heap.size < w1.heap.size ∧ Below w.heap.size w w1 :=
          ⟨by simp [*], by simp [*], hz0, (by repeat (first | exact Below.refl _ _ | refine bl_alloc ?_ _ | refine bl_drewN ?_ _ | refine bl_trans (by assumption) ?_ | refine bl_set ?_ (by first | omega | (simp; done) | (simp; omega)) _))⟩
        clear hc hf
        go_region_held3 (fun w' => w'.cell? ⟨w.heap.size, 0, none⟩ = some (.int .i64 a) ∧ w'.cell? ⟨w.heap.size, 1, none⟩ = some (.int .i64 b) ∧ w.heap.size < w'.heap.size ∧ Below w.heap.size w w') (first | exact S2_after hb2 (by assumption) | exact S2_after (below_drewN (Below.refl _ _) _) (by assumption) | exact S2_after (Below.drew (Below.refl _ _)) (by assumption) | assumption) (first | (go_at_call 40; refine (lineTimesPlace_any _ _ _ _ h (by omega) (by omega) _).mono ?_; rintro e w2 ⟨rfl, hb2⟩) | (go_at_call 36; refine (toldFraction_any _ _ (by omega) (by omega) (by omega) (by omega) _).mono ?_; rintro e w2 ⟨rfl, nn, rfl⟩))
        go_wp2
        go_ret3
        exact ⟨by simp [HH, okW, HB.out, g, M.out], (by repeat (first | exact Below.refl _ _ | refine bl_alloc ?_ _ | refine bl_drewN ?_ _ | refine bl_trans (by assumption) ?_ | refine bl_set ?_ (by first | omega | (simp; done) | (simp; omega)) _))⟩
      · have M := Lib.hid (show hgt l a b x = 0 by unfold hgt; omega)
        go_enter Try.func10, Try.ntmps10
        go_wp2_with (first | (go_at_call 35; refine (impl_isPoleOf _ _ _ _).mono ?_; rintro e w1 ⟨rfl, hb⟩; obtain ⟨hc, hf⟩ := bcell hb; have hz := bsize hb; (try simp only [World.size_alloc] at hz); (try have hz0 : w.heap.size < w1.heap.size := by omega); rw [h]) | (go_at_call 39; refine (isWithin_any _ _ _ _).mono ?_; rintro e w' ⟨rfl, rfl⟩))
        have hS : w1.cell? ⟨w.heap.size, 0, none⟩ = some (.int .i64 a) ∧ w1.cell? ⟨w.heap.size, 1, none⟩ = some (.int .i64 b) ∧ w.heap.size < w1.heap.size ∧ Below w.heap.size w w1 :=
          ⟨by simp [*], by simp [*], hz0, (by repeat (first | exact Below.refl _ _ | refine bl_alloc ?_ _ | refine bl_drewN ?_ _ | refine bl_trans (by assumption) ?_ | refine bl_set ?_ (by first | omega | (simp; done) | (simp; omega)) _))⟩
        clear hc hf
        go_region_held3 (fun w' => w'.cell? ⟨w.heap.size, 0, none⟩ = some (.int .i64 a) ∧ w'.cell? ⟨w.heap.size, 1, none⟩ = some (.int .i64 b) ∧ w.heap.size < w'.heap.size ∧ Below w.heap.size w w') (first | exact S2_after hb2 (by assumption) | exact S2_after (below_drewN (Below.refl _ _) _) (by assumption) | exact S2_after (Below.drew (Below.refl _ _)) (by assumption) | assumption) (first | (go_at_call 40; refine (lineTimesPlace_any _ _ _ _ h (by omega) (by omega) _).mono ?_; rintro e w2 ⟨rfl, hb2⟩) | (go_at_call 36; refine (toldFraction_any _ _ (by omega) (by omega) (by omega) (by omega) _).mono ?_; rintro e w2 ⟨rfl, nn, rfl⟩))
        go_wp2
        go_ret3
        exact ⟨by simp [HH, okW, HB.out, g, M.out], (by repeat (first | exact Below.refl _ _ | refine bl_alloc ?_ _ | refine bl_drewN ?_ _ | refine bl_trans (by assumption) ?_ | refine bl_set ?_ (by first | omega | (simp; done) | (simp; omega)) _))⟩
set_option maxHeartbeats 400000 in
theorem impl_HiddenHeight (l a b x : Int) (w : World) :
    Calls Try.prog 12 #[.int .i64 l, .agg #[.int .i64 a, .int .i64 b], .int .i64 x] w fun e w' => e = .returned (.tuple #[.int .i64 (HH ln l a b x), .int .i64 (HH ld l a b x), .bool (okW l a b x)]) ∧ Below w.heap.size w w' := by
  go_enter Try.func12, Try.ntmps12
  go_wp2_with (go_at_call 10; refine (impl_ShadowOnWall _ _ _ _ _).mono ?_; rintro e w1 ⟨rfl, hb⟩; obtain ⟨hc, hf⟩ := bcell hb; have hz := bsize hb; (try simp only [World.size_alloc] at hz); (try have hz0 : w.heap.size < w1.heap.size := by omega))
  go_ret3
  exact ⟨rfl, (by repeat (first | exact Below.refl _ _ | refine bl_alloc ?_ _ | refine bl_drewN ?_ _ | refine bl_trans (by assumption) ?_ | refine bl_set ?_ (by first | omega | (simp; done) | (simp; omega)) _))⟩
set_option maxHeartbeats 400000 in
theorem swHeight_any (l a b x : Int) (h : okB l a b = true) (x0 : 0 ≤ x) (x1 : x ≤ 501) (w : World) :
    Calls Try.prog 42 #[.int .i64 l, .agg #[.int .i64 a, .int .i64 b], .int .i64 x] w fun e w' => e = .returned (.tuple #[.int .i64 (ln (hgt l a b x) a), .int .i64 (ld (hgt l a b x) a)]) ∧ Below w.heap.size w w' := by
  obtain ⟨⟨l0, l1⟩, ⟨a0, a1⟩, ⟨b0, b1⟩, b2⟩ := okB_true h
  obtain ⟨⟨f1, f2⟩, ⟨f3, f4⟩, f5, f6⟩ := line_bd h x0 x1
  have e0 : line l a b x = l * a - (l - b) * x := rfl
  by_cases m : l * a - (l - b) * x ≤ 0
  · have M := Lib.hid (show hgt l a b x = 0 by unfold hgt; omega)
    clear e0
    go_enter Try.func42, Try.ntmps42
    go_wp2
    go_ret2
    exact ⟨by simp [M.out, ln_zero, ld_zero a0], (by repeat (first | exact Below.refl _ _ | refine bl_alloc ?_ _ | refine bl_drewN ?_ _ | refine bl_trans (by assumption) ?_ | refine bl_set ?_ (by first | omega | (simp; done) | (simp; omega)) _))⟩
  · have M := Lib.hid (show hgt l a b x = l * a - (l - b) * x by unfold hgt; omega)
    clear e0
    go_enter Try.func42, Try.ntmps42
    go_wp2_with (go_at_call 38; refine (clLow_any _ _ (by omega) (by omega) (by omega) (by omega) _).mono ?_; rintro e w' ⟨rfl, nn, rfl⟩)
    go_ret2
    exact ⟨by simp [M.out], (by repeat (first | exact Below.refl _ _ | refine bl_alloc ?_ _ | refine bl_drewN ?_ _ | refine bl_trans (by assumption) ?_ | refine bl_set ?_ (by first | omega | (simp; done) | (simp; omega)) _))⟩
set_option maxHeartbeats 400000 in
theorem spec_ShadowOnWall (l a b x : Int) (w : World) :
    Calls Try.prog 11 #[.int .i64 l, .agg #[.int .i64 a, .int .i64 b], .int .i64 x] w fun e w' => e = .returned (.tuple #[.int .i64 (HH ln l a b x), .int .i64 (HH ld l a b x), .bool (okW l a b x)]) ∧ Below w.heap.size w w' := by
  cases h : okB l a b
  · go_enter Try.func11, Try.ntmps11
    go_wp2_with (go_at_call 37; refine (spec_swBoth _ _ _ _).mono ?_; rintro e w1 ⟨rfl, hb⟩; obtain ⟨hc, hf⟩ := bcell hb; have hz := bsize hb; (try simp only [World.size_alloc] at hz); (try have hz0 : w.heap.size < w1.heap.size := by omega); rw [h])
    go_ret3
    exact ⟨by simp [HH, okW, h], (by repeat (first | exact Below.refl _ _ | refine bl_alloc ?_ _ | refine bl_drewN ?_ _ | refine bl_trans (by assumption) ?_ | refine bl_set ?_ (by first | omega | (simp; done) | (simp; omega)) _))⟩
  · obtain ⟨⟨l0, l1⟩, ⟨a0, a1⟩, ⟨b0, b1⟩, b2⟩ := okB_true h
    cases g : within x (a + 1) 500
    · go_enter Try.func11, Try.ntmps11
      go_wp2_with (first | (go_at_call 37; refine (spec_swBoth _ _ _ _).mono ?_; rintro e w1 ⟨rfl, hb⟩; obtain ⟨hc, hf⟩ := bcell hb; have hz := bsize hb; (try simp only [World.size_alloc] at hz); (try have hz0 : w.heap.size < w1.heap.size := by omega); rw [h]) | (go_at_call 41; refine (l1In_any _ _ _ _).mono ?_; rintro e w' ⟨rfl, rfl⟩))
      go_ret3
      exact ⟨by simp [HH, okW, h, g], (by repeat (first | exact Below.refl _ _ | refine bl_alloc ?_ _ | refine bl_drewN ?_ _ | refine bl_trans (by assumption) ?_ | refine bl_set ?_ (by first | omega | (simp; done) | (simp; omega)) _))⟩
    · have t := within_true g
      go_enter Try.func11, Try.ntmps11
      go_wp2_with (first | (go_at_call 37; refine (spec_swBoth _ _ _ _).mono ?_; rintro e w1 ⟨rfl, hb⟩; obtain ⟨hc, hf⟩ := bcell hb; have hz := bsize hb; (try simp only [World.size_alloc] at hz); (try have hz0 : w.heap.size < w1.heap.size := by omega); rw [h]) | (go_at_call 41; refine (l1In_any _ _ _ _).mono ?_; rintro e w' ⟨rfl, rfl⟩) | (go_at_call 42; refine (swHeight_any _ _ _ _ h (by omega) (by omega) _).mono ?_; rintro e w1 ⟨rfl, hb⟩; obtain ⟨hc, hf⟩ := bcell hb; have hz := bsize hb; (try simp only [World.size_alloc] at hz); (try have hz0 : w.heap.size < w1.heap.size := by omega)))
      go_ret3
      exact ⟨by simp [HH, okW, h, g], (by repeat (first | exact Below.refl _ _ | refine bl_alloc ?_ _ | refine bl_drewN ?_ _ | refine bl_trans (by assumption) ?_ | refine bl_set ?_ (by first | omega | (simp; done) | (simp; omega)) _))⟩
set_option maxHeartbeats 400000 in
theorem spec_HiddenHeight (l a b x : Int) (w : World) :
    Calls Try.prog 13 #[.int .i64 l, .agg #[.int .i64 a, .int .i64 b], .int .i64 x] w fun e w' => e = .returned (.tuple #[.int .i64 (HH ln l a b x), .int .i64 (HH ld l a b x), .bool (okW l a b x)]) ∧ Below w.heap.size w w' := by
  cases h : okB l a b
  · go_enter Try.func13, Try.ntmps13
    go_wp2_with (go_at_call 37; refine (spec_swBoth _ _ _ _).mono ?_; rintro e w1 ⟨rfl, hb⟩; obtain ⟨hc, hf⟩ := bcell hb; have hz := bsize hb; (try simp only [World.size_alloc] at hz); (try have hz0 : w.heap.size < w1.heap.size := by omega); rw [h])
    go_ret3
    exact ⟨by simp [HH, okW, h], (by repeat (first | exact Below.refl _ _ | refine bl_alloc ?_ _ | refine bl_drewN ?_ _ | refine bl_trans (by assumption) ?_ | refine bl_set ?_ (by first | omega | (simp; done) | (simp; omega)) _))⟩
  · obtain ⟨⟨l0, l1⟩, ⟨a0, a1⟩, ⟨b0, b1⟩, b2⟩ := okB_true h
    cases g : within x (a + 1) 500
    · go_enter Try.func13, Try.ntmps13
      go_wp2_with (first | (go_at_call 37; refine (spec_swBoth _ _ _ _).mono ?_; rintro e w1 ⟨rfl, hb⟩; obtain ⟨hc, hf⟩ := bcell hb; have hz := bsize hb; (try simp only [World.size_alloc] at hz); (try have hz0 : w.heap.size < w1.heap.size := by omega); rw [h]) | (go_at_call 41; refine (l1In_any _ _ _ _).mono ?_; rintro e w' ⟨rfl, rfl⟩))
      go_ret3
      exact ⟨by simp [HH, okW, h, g], (by repeat (first | exact Below.refl _ _ | refine bl_alloc ?_ _ | refine bl_drewN ?_ _ | refine bl_trans (by assumption) ?_ | refine bl_set ?_ (by first | omega | (simp; done) | (simp; omega)) _))⟩
    · have t := within_true g
      go_enter Try.func13, Try.ntmps13
      go_wp2_with (first | (go_at_call 37; refine (spec_swBoth _ _ _ _).mono ?_; rintro e w1 ⟨rfl, hb⟩; obtain ⟨hc, hf⟩ := bcell hb; have hz := bsize hb; (try simp only [World.size_alloc] at hz); (try have hz0 : w.heap.size < w1.heap.size := by omega); rw [h]) | (go_at_call 41; refine (l1In_any _ _ _ _).mono ?_; rintro e w' ⟨rfl, rfl⟩) | (go_at_call 42; refine (swHeight_any _ _ _ _ h (by omega) (by omega) _).mono ?_; rintro e w1 ⟨rfl, hb⟩; obtain ⟨hc, hf⟩ := bcell hb; have hz := bsize hb; (try simp only [World.size_alloc] at hz); (try have hz0 : w.heap.size < w1.heap.size := by omega)))
      go_ret3
      exact ⟨by simp [HH, okW, h, g], (by repeat (first | exact Below.refl _ _ | refine bl_alloc ?_ _ | refine bl_drewN ?_ _ | refine bl_trans (by assumption) ?_ | refine bl_set ?_ (by first | omega | (simp; done) | (simp; omega)) _))⟩

def hid_ (l a b c d : Int) : Bool := decide (a < c) && decide (d * a ≤ line l a b c)
def okI (l a b c d : Int) : Bool := okB l a b && okB l c d
def IH (l a b c d : Int) : Bool := okI l a b c d && hid_ l a b c d
theorem frac_le {n a d : Int} (hn : 0 ≤ n) (ha : 1 ≤ a) : d * ld n a ≤ ln n a ↔ d * a ≤ n := by
  obtain ⟨m, rfl⟩ := Int.eq_ofNat_of_zero_le hn
  obtain ⟨k, rfl⟩ := Int.eq_ofNat_of_zero_le (show 0 ≤ a by omega)
  have hg : 0 < Nat.gcd m k := Nat.gcd_pos_of_pos_right _ (by omega)
  obtain ⟨x, hx⟩ := Nat.gcd_dvd_left m k
  obtain ⟨y, hy⟩ := Nat.gcd_dvd_right m k
  have e1 : ln (m : Int) (k : Int) = (x : Int) := by
    rw [ln_nat]; congr 1; conv => lhs; lhs; rw [hx]
    exact Nat.mul_div_cancel_left _ hg
  have e2 : ld (m : Int) (k : Int) = (y : Int) := by
    rw [ld_nat]; congr 1; conv => lhs; lhs; rw [hy]
    exact Nat.mul_div_cancel_left _ hg
  rw [e1, e2]
  generalize hG : Nat.gcd m k = g at *
  have h1 : (m : Int) = (g : Int) * (x : Int) := by exact_mod_cast hx
  have h2 : (k : Int) = (g : Int) * (y : Int) := by exact_mod_cast hy
  have hg' : (0 : Int) < (g : Int) := by omega
  rw [h1, h2]
  constructor
  · intro h
    have := Int.mul_le_mul_of_nonneg_left h (Int.le_of_lt hg')
    calc d * ((g : Int) * y) = (g : Int) * (d * y) := Int.mul_left_comm _ _ _
      _ ≤ _ := this
  · intro h
    have h' : (g : Int) * (d * y) ≤ (g : Int) * x := by
      calc (g : Int) * (d * y) = d * ((g : Int) * y) := Int.mul_left_comm _ _ _
        _ ≤ _ := h
    exact Int.le_of_mul_le_mul_left h' hg'
theorem frac_hid {l a b x d : Int} (ha : 1 ≤ a) (hd : 1 ≤ d) : d * ld (hgt l a b x) a ≤ ln (hgt l a b x) a ↔ d * a ≤ line l a b x := by
  rw [frac_le (by unfold hgt; omega) ha]
  have : 1 ≤ d * a := by have := Int.mul_le_mul hd ha (by omega) (by omega); omega
  unfold hgt
  omega
theorem ld_bd {n a : Int} (hn : 0 ≤ n) (ha : 1 ≤ a) : 0 ≤ ld n a ∧ ld n a ≤ a := by
  obtain ⟨m, rfl⟩ := Int.eq_ofNat_of_zero_le hn
  obtain ⟨k, rfl⟩ := Int.eq_ofNat_of_zero_le (show 0 ≤ a by omega)
  rw [ld_nat]
  have := Nat.div_le_self k (Nat.gcd m k)
  generalize k / Nat.gcd m k = z at *
  omega
theorem ln_bd {n a : Int} (hn : 0 ≤ n) (ha : 1 ≤ a) : 0 ≤ ln n a ∧ ln n a ≤ n := by
  obtain ⟨m, rfl⟩ := Int.eq_ofNat_of_zero_le hn
  obtain ⟨k, rfl⟩ := Int.eq_ofNat_of_zero_le (show 0 ≤ a by omega)
  rw [ln_nat]
  have := Nat.div_le_self m (Nat.gcd m k)
  generalize m / Nat.gcd m k = z at *
  omega
end Go.Proofs.Ytgbefdkldgihdaa

/- Contracts of the functions of chapter 1 that return ladders or ask for one number. -/
import Derived.Test.YtohlbnfncllhoaaDoorC3
namespace Go.Proofs.YtohlbnfncllhoaaDoor
open Go.RowKit

def Z (ok : Bool) (x : Int) : Int := if ok then x else 0

def okO (h n d : Int) : Bool := (within h 1 1000 && within n 1 1000 && within d 1 1000) && decide (n < d * h)
def OH (f : Int → Int → Int) (h n d : Int) : Int := if okO h n d then f (n * h) (d * h - n) else 0
theorem okO_facts {h n d : Int} (h1 : within h 1 1000 = true) (h2 : within n 1 1000 = true) (h3 : within d 1 1000 = true) : (1 ≤ h ∧ 1 ≤ n) ∧ (0 ≤ d * h ∧ d * h ≤ 1000000) ∧ 0 ≤ n * h ∧ n * h ≤ 1000000 := by
  have := within_true h1; have := within_true h2; have := within_true h3
  exact ⟨by omega, mul_bd2 (m := 1000) (k := 1000) (by omega) (by omega) (by omega) (by omega), mul_bd2 (m := 1000) (k := 1000) (by omega) (by omega) (by omega) (by omega)⟩
set_option maxHeartbeats 400000 in
theorem impl_OtherHeight (h n d : Int) (w : World) :
    Calls Tryd.prog 26 #[.int .i64 h, .int .i64 n, .int .i64 d] w fun e w' => e = .returned (.tuple #[.int .i64 (OH ln h n d), .int .i64 (OH ld h n d), .bool (okO h n d)]) ∧ Below w.heap.size w w' := by
  cases h1 : within h 1 1000
  · go_enter Tryd.func26, Tryd.ntmps26
    go_wp2_with (go_at_call 45; refine (isWithin_any _ _ _ _).mono ?_; rintro e w' ⟨rfl, rfl⟩)
    go_ret3
    exact ⟨by simp [OH, okO, h1], (by repeat (first | exact Below.refl _ _ | refine bl_alloc ?_ _ | refine bl_drewN ?_ _ | refine bl_trans (by assumption) ?_ | refine bl_set ?_ (by first | omega | (simp; done) | (simp; omega)) _))⟩
  cases h2 : within n 1 1000
  · go_enter Tryd.func26, Tryd.ntmps26
    go_wp2_with (go_at_call 45; refine (isWithin_any _ _ _ _).mono ?_; rintro e w' ⟨rfl, rfl⟩)
    go_ret3
    exact ⟨by simp [OH, okO, h2], (by repeat (first | exact Below.refl _ _ | refine bl_alloc ?_ _ | refine bl_drewN ?_ _ | refine bl_trans (by assumption) ?_ | refine bl_set ?_ (by first | omega | (simp; done) | (simp; omega)) _))⟩
  cases h3 : within d 1 1000
  · go_enter Tryd.func26, Tryd.ntmps26
    go_wp2_with (go_at_call 45; refine (isWithin_any _ _ _ _).mono ?_; rintro e w' ⟨rfl, rfl⟩)
    go_ret3
    exact ⟨by simp [OH, okO, h3], (by repeat (first | exact Below.refl _ _ | refine bl_alloc ?_ _ | refine bl_drewN ?_ _ | refine bl_trans (by assumption) ?_ | refine bl_set ?_ (by first | omega | (simp; done) | (simp; omega)) _))⟩
  obtain ⟨⟨g0, g1⟩, ⟨x0, x1⟩, y0, y1⟩ := okO_facts h1 h2 h3
  by_cases g : n < d * h
  · have G := Lib.hid (show okO h n d = true by simp [okO, h1, h2, h3, g])
    go_enter Tryd.func26, Tryd.ntmps26
    go_wp2_with (first | (go_at_call 45; refine (isWithin_any _ _ _ _).mono ?_; rintro e w' ⟨rfl, rfl⟩) | (go_at_call 38; refine (toldFraction_any _ _ (by omega) (by omega) (by omega) (by omega) _).mono ?_; rintro e w' ⟨rfl, nn, rfl⟩))
    go_ret3
    exact ⟨by simp [OH, G.out], (by repeat (first | exact Below.refl _ _ | refine bl_alloc ?_ _ | refine bl_drewN ?_ _ | refine bl_trans (by assumption) ?_ | refine bl_set ?_ (by first | omega | (simp; done) | (simp; omega)) _))⟩
  · have G := Lib.hid (show okO h n d = false by simp [okO, g])
    go_enter Tryd.func26, Tryd.ntmps26
    go_wp2_with (go_at_call 45; refine (isWithin_any _ _ _ _).mono ?_; rintro e w' ⟨rfl, rfl⟩)
    go_ret3
    exact ⟨by simp [OH, G.out], (by repeat (first | exact Below.refl _ _ | refine bl_alloc ?_ _ | refine bl_drewN ?_ _ | refine bl_trans (by assumption) ?_ | refine bl_set ?_ (by first | omega | (simp; done) | (simp; omega)) _))⟩
set_option maxHeartbeats 400000 in
theorem spec_OtherHeight (h n d : Int) (w : World) :
    Calls Tryd.prog 33 #[.int .i64 h, .int .i64 n, .int .i64 d] w fun e w' => e = .returned (.tuple #[.int .i64 (OH ln h n d), .int .i64 (OH ld h n d), .bool (okO h n d)]) ∧ Below w.heap.size w w' := by
  cases h1 : within h 1 1000
  · go_enter Tryd.func33, Tryd.ntmps33
    go_wp2_with (go_at_call 56; refine (l1In_any _ _ _ _).mono ?_; rintro e w' ⟨rfl, rfl⟩)
    go_ret3
    exact ⟨by simp [OH, okO, h1], (by repeat (first | exact Below.refl _ _ | refine bl_alloc ?_ _ | refine bl_drewN ?_ _ | refine bl_trans (by assumption) ?_ | refine bl_set ?_ (by first | omega | (simp; done) | (simp; omega)) _))⟩
  cases h2 : within n 1 1000
  · go_enter Tryd.func33, Tryd.ntmps33
    go_wp2_with (go_at_call 56; refine (l1In_any _ _ _ _).mono ?_; rintro e w' ⟨rfl, rfl⟩)
    go_ret3
    exact ⟨by simp [OH, okO, h2], (by repeat (first | exact Below.refl _ _ | refine bl_alloc ?_ _ | refine bl_drewN ?_ _ | refine bl_trans (by assumption) ?_ | refine bl_set ?_ (by first | omega | (simp; done) | (simp; omega)) _))⟩
  cases h3 : within d 1 1000
  · go_enter Tryd.func33, Tryd.ntmps33
    go_wp2_with (go_at_call 56; refine (l1In_any _ _ _ _).mono ?_; rintro e w' ⟨rfl, rfl⟩)
    go_ret3
    exact ⟨by simp [OH, okO, h3], (by repeat (first | exact Below.refl _ _ | refine bl_alloc ?_ _ | refine bl_drewN ?_ _ | refine bl_trans (by assumption) ?_ | refine bl_set ?_ (by first | omega | (simp; done) | (simp; omega)) _))⟩
  obtain ⟨⟨g0, g1⟩, ⟨x0, x1⟩, y0, y1⟩ := okO_facts h1 h2 h3
  rw [Int.mul_comm d h] at x0 x1
  rw [Int.mul_comm n h] at y0 y1
  have E1 := Lib.hid (Int.mul_comm d h)
  have E2 := Lib.hid (Int.mul_comm n h)
  by_cases g : n < h * d
  · have G := Lib.hid (show okO h n d = true by simp [okO, h1, h2, h3, E1.out, g])
    go_enter Tryd.func33, Tryd.ntmps33
    go_wp2_with (first | (go_at_call 56; refine (l1In_any _ _ _ _).mono ?_; rintro e w' ⟨rfl, rfl⟩) | (go_at_call 40; refine (clLow_any _ _ (by omega) (by omega) (by omega) (by omega) _).mono ?_; rintro e w' ⟨rfl, nn, rfl⟩))
    go_ret3
    exact ⟨by simp [OH, G.out, E1.out, E2.out], (by repeat (first | exact Below.refl _ _ | refine bl_alloc ?_ _ | refine bl_drewN ?_ _ | refine bl_trans (by assumption) ?_ | refine bl_set ?_ (by first | omega | (simp; done) | (simp; omega)) _))⟩
  · have G := Lib.hid (show okO h n d = false by simp [okO, E1.out, g])
    go_enter Tryd.func33, Tryd.ntmps33
    go_wp2_with (go_at_call 56; refine (l1In_any _ _ _ _).mono ?_; rintro e w' ⟨rfl, rfl⟩)
    go_ret3
    exact ⟨by simp [OH, G.out], (by repeat (first | exact Below.refl _ _ | refine bl_alloc ?_ _ | refine bl_drewN ?_ _ | refine bl_trans (by assumption) ?_ | refine bl_set ?_ (by first | omega | (simp; done) | (simp; omega)) _))⟩
def LS (a b c : Int) : Int := if okL a b c then b * c / (b + c) else 0
set_option maxHeartbeats 400000 in
theorem floorOfCross_any (a b c : Int) (h : okL a b c = true) (w : World) :
    Calls Tryd.prog 41 #[.agg #[.int .i64 a, .int .i64 b, .int .i64 c]] w fun e w' => e = .returned (.int .i64 (b * c / (b + c))) ∧ Below w.heap.size w w' := by
    obtain ⟨⟨a0, a1⟩, ⟨b0, b1⟩, c0, c1⟩ := okL_true h
    obtain ⟨f1, f2⟩ := mul_bd (a := b) (b := c) (by omega) (by omega) b1 c1
    go_enter Tryd.func41, Tryd.ntmps41
    go_wp2
    go_ret
    exact ⟨rfl, (by repeat (first | exact Below.refl _ _ | refine bl_alloc ?_ _ | refine bl_drewN ?_ _ | refine bl_trans (by assumption) ?_ | refine bl_set ?_ (by first | omega | (simp; done) | (simp; omega)) _))⟩
set_option maxHeartbeats 400000 in
theorem impl_LongestStick (a b c : Int) (w : World) :
    Calls Tryd.prog 15 #[.agg #[.int .i64 a, .int .i64 b, .int .i64 c]] w fun e w' => e = .returned (.tuple #[.int .i64 (LS a b c), .bool (okL a b c)]) ∧ Below w.heap.size w w' := by
  cases h : okL a b c
  · go_enter Tryd.func15, Tryd.ntmps15
    go_wp2_with (go_at_call 21; refine (impl_AreLadders _ _ _ _).mono ?_; rintro e w1 ⟨rfl, hb⟩; obtain ⟨hc, hf⟩ := bcell hb; have hz := bsize hb; (try simp only [World.size_alloc] at hz); (try have hz0 : w.heap.size < w1.heap.size := by omega); rw [h])
    go_ret2
    exact ⟨by simp [LS, h], (by repeat (first | exact Below.refl _ _ | refine bl_alloc ?_ _ | refine bl_drewN ?_ _ | refine bl_trans (by assumption) ?_ | refine bl_set ?_ (by first | omega | (simp; done) | (simp; omega)) _))⟩
  · obtain ⟨⟨a0, a1⟩, ⟨b0, b1⟩, c0, c1⟩ := okL_true h
    obtain ⟨f1, f2⟩ := mul_bd (a := b) (b := c) (by omega) (by omega) b1 c1
    go_enter Tryd.func15, Tryd.ntmps15
    go_wp2_with (first | (go_at_call 21; refine (impl_AreLadders _ _ _ _).mono ?_; rintro e w1 ⟨rfl, hb⟩; obtain ⟨hc, hf⟩ := bcell hb; have hz := bsize hb; (try simp only [World.size_alloc] at hz); (try have hz0 : w.heap.size < w1.heap.size := by omega); rw [h]) | (go_at_call 41; refine (floorOfCross_any _ _ _ h _).mono ?_; rintro e w1 ⟨rfl, hb⟩; obtain ⟨hc, hf⟩ := bcell hb; have hz := bsize hb; (try simp only [World.size_alloc] at hz); (try have hz0 : w.heap.size < w1.heap.size := by omega)))
    go_ret2
    exact ⟨by simp [LS, h], (by repeat (first | exact Below.refl _ _ | refine bl_alloc ?_ _ | refine bl_drewN ?_ _ | refine bl_trans (by assumption) ?_ | refine bl_set ?_ (by first | omega | (simp; done) | (simp; omega)) _))⟩
set_option maxHeartbeats 400000 in
theorem spec_LongestStick (a b c : Int) (w : World) :
    Calls Tryd.prog 16 #[.agg #[.int .i64 a, .int .i64 b, .int .i64 c]] w fun e w' => e = .returned (.tuple #[.int .i64 (LS a b c), .bool (okL a b c)]) ∧ Below w.heap.size w w' := by
  cases h : okL a b c
  · go_enter Tryd.func16, Tryd.ntmps16
    go_wp2_with (go_at_call 39; refine (spec_clGood _ _ _ _).mono ?_; rintro e w1 ⟨rfl, hb⟩; obtain ⟨hc, hf⟩ := bcell hb; have hz := bsize hb; (try simp only [World.size_alloc] at hz); (try have hz0 : w.heap.size < w1.heap.size := by omega); rw [h])
    go_ret2
    exact ⟨by simp [LS, h], (by repeat (first | exact Below.refl _ _ | refine bl_alloc ?_ _ | refine bl_drewN ?_ _ | refine bl_trans (by assumption) ?_ | refine bl_set ?_ (by first | omega | (simp; done) | (simp; omega)) _))⟩
  · obtain ⟨⟨a0, a1⟩, ⟨b0, b1⟩, c0, c1⟩ := okL_true h
    obtain ⟨f1, f2⟩ := mul_bd (a := b) (b := c) (by omega) (by omega) b1 c1
    go_enter Tryd.func16, Tryd.ntmps16
    go_wp2_with (go_at_call 39; refine (spec_clGood _ _ _ _).mono ?_; rintro e w1 ⟨rfl, hb⟩; obtain ⟨hc, hf⟩ := bcell hb; have hz := bsize hb; (try simp only [World.size_alloc] at hz); (try have hz0 : w.heap.size < w1.heap.size := by omega); rw [h])
    go_ret2
    exact ⟨by simp [LS, h], (by repeat (first | exact Below.refl _ _ | refine bl_alloc ?_ _ | refine bl_drewN ?_ _ | refine bl_trans (by assumption) ?_ | refine bl_set ?_ (by first | omega | (simp; done) | (simp; omega)) _))⟩
def okM (a b c d : Int) : Bool := (okL a b c && within d (-1000) 1000) && within (a + d) 1 1000
set_option maxHeartbeats 400000 in
theorem onlyLadders_any (a b c : Int) (w : World) :
    Calls Tryd.prog 44 #[.agg #[.int .i64 a, .int .i64 b, .int .i64 c]] w fun e w' => e = .returned (.tuple #[.agg #[.int .i64 (Z (okL a b c) (a)), .int .i64 (Z (okL a b c) (b)), .int .i64 (Z (okL a b c) (c))], .bool (okL a b c)]) ∧ Below w.heap.size w w' := by
  cases h : okL a b c
  all_goals
    go_enter Tryd.func44, Tryd.ntmps44
    go_wp2_with (go_at_call 21; refine (impl_AreLadders _ _ _ _).mono ?_; rintro e w1 ⟨rfl, hb⟩; obtain ⟨hc, hf⟩ := bcell hb; have hz := bsize hb; (try simp only [World.size_alloc] at hz); (try have hz0 : w.heap.size < w1.heap.size := by omega); (try have hz1 : w.heap.size + 1 < w1.heap.size := by omega); rw [h])
    refine bodyPost_ret (v := .tuple #[.agg #[.int .i64 (Z (okL a b c) (a)), .int .i64 (Z (okL a b c) (b)), .int .i64 (Z (okL a b c) (c))], .bool (okL a b c)]) (by simp [results, Tryd.results44, go_sem, Z, *]) rfl ⟨by rw [h], (by repeat (first | exact Below.refl _ _ | refine bl_alloc ?_ _ | refine bl_drewN ?_ _ | refine bl_trans (by assumption) ?_ | refine bl_set ?_ (by first | omega | (simp; done) | (simp; omega)) _))⟩

end Go.Proofs.YtohlbnfncllhoaaDoor

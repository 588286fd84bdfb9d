/- Chapter 8: islands. -/
import Derived.Test.YtahcfjpplkemdaaHT2
import Derived.Deep.Cut
import Derived.Deep.CutRange
import Derived.Deep.DeepCutAuto
namespace Go.Proofs.Ytahcfjpplkemdaa
open Go.RowKit
set_option linter.unusedVariables false
set_option linter.unusedSimpArgs false
def okIs (s a f g : Int) : Bool := okSt s && (allS [a, f, g] && decide (f < g))
theorem okIs_true {s a f g : Int} (h : okIs s a f g = true) : (1 ≤ s ∧ s ≤ 100) ∧ (1 ≤ a ∧ a ≤ 2000) ∧ (1 ≤ f ∧ f ≤ 2000) ∧ (1 ≤ g ∧ g ≤ 2000) ∧ f < g := by
  simp only [okIs, Bool.and_eq_true, decide_eq_true_eq] at h
  obtain ⟨h1, h2, h3⟩ := h
  obtain ⟨p, q, r⟩ := allS3_true h2
  exact ⟨okSt_true h1, p, q, r, h3⟩
set_option maxHeartbeats 400000 in
theorem impl_IsIsland (s a f g : Int) (w : World) :
    Calls Try.prog 41 #[.agg #[.int .i64 s, .int .i64 a, .int .i64 f, .int .i64 g]] w fun e w' => e = .returned (.bool (okIs s a f g)) ∧ Below w.heap.size w w' := by
  cases h1 : okSt s
  case false =>
    go_enter Try.func41, Try.ntmps41
    go_wp2_with fail
    refine (isStaff_any _ _).mono ?_
    rintro e w' ⟨rfl, rfl⟩
    rw [h1]
    go_wp2
    go_ret
    exact ⟨by simp [okIs, h1], (by repeat (first | exact Below.refl _ _ | refine bl_alloc ?_ _ | refine bl_drewN ?_ _ | refine bl_trans (by assumption) ?_ | refine bl_set ?_ (by first | omega | (simp; done) | (simp; omega)) _))⟩
  cases h2 : allS [a, f, g]
  case false =>
    go_enter Try.func41, Try.ntmps41
    go_wp2_with fail
    refine (isStaff_any _ _).mono ?_
    rintro e w' ⟨rfl, rfl⟩
    rw [h1]
    go_wp2_with fail
    refine (areSteps3 _ _ _ _ _ _ (by first | rfl | simp)).mono ?_
    rintro e w' ⟨rfl, rfl⟩
    rw [h2]
    go_wp2
    go_ret
    exact ⟨by simp [okIs, h1, h2], (by repeat (first | exact Below.refl _ _ | refine bl_alloc ?_ _ | refine bl_drewN ?_ _ | refine bl_trans (by assumption) ?_ | refine bl_set ?_ (by first | omega | (simp; done) | (simp; omega)) _))⟩
  have HO := Lib.hid (show okIs s a f g = decide (f < g) by simp [okIs, h1, h2])
  go_enter Try.func41, Try.ntmps41
  go_wp2_with fail
  refine (isStaff_any _ _).mono ?_
  rintro e w' ⟨rfl, rfl⟩
  rw [h1]
  go_wp2_with fail
  refine (areSteps3 _ _ _ _ _ _ (by first | rfl | simp)).mono ?_
  rintro e w' ⟨rfl, rfl⟩
  rw [h2]
  go_wp2
  all_goals (go_ret; exact ⟨by rw [HO.out]; simp, (by repeat (first | exact Below.refl _ _ | refine bl_alloc ?_ _ | refine bl_drewN ?_ _ | refine bl_trans (by assumption) ?_ | refine bl_set ?_ (by first | omega | (simp; done) | (simp; omega)) _))⟩)
set_option maxHeartbeats 400000 in
theorem spec_htGood (s a f g : Int) (w : World) :
    Calls Try.prog 65 #[.agg #[.int .i64 s, .int .i64 a, .int .i64 f, .int .i64 g]] w fun e w' => e = .returned (.bool (okIs s a f g)) ∧ Below w.heap.size w w' := by
  cases h1 : okSt s
  case false =>
    go_enter Try.func65, Try.ntmps65
    go_wp2_with fail
    refine (htStaff_any _ _).mono ?_
    rintro e w' ⟨rfl, rfl⟩
    rw [h1]
    go_wp2
    go_ret
    exact ⟨by simp [okIs, h1], (by repeat (first | exact Below.refl _ _ | refine bl_alloc ?_ _ | refine bl_drewN ?_ _ | refine bl_trans (by assumption) ?_ | refine bl_set ?_ (by first | omega | (simp; done) | (simp; omega)) _))⟩
  cases h2 : allS [a, f, g]
  case false =>
    go_enter Try.func65, Try.ntmps65
    go_wp2_with fail
    refine (htStaff_any _ _).mono ?_
    rintro e w' ⟨rfl, rfl⟩
    rw [h1]
    go_wp2_with fail
    refine (htLong3 _ _ _ _ _ _ (by first | rfl | simp)).mono ?_
    rintro e w' ⟨rfl, rfl⟩
    rw [h2]
    go_wp2
    go_ret
    exact ⟨by simp [okIs, h1, h2], (by repeat (first | exact Below.refl _ _ | refine bl_alloc ?_ _ | refine bl_drewN ?_ _ | refine bl_trans (by assumption) ?_ | refine bl_set ?_ (by first | omega | (simp; done) | (simp; omega)) _))⟩
  have HO := Lib.hid (show okIs s a f g = decide (f < g) by simp [okIs, h1, h2])
  go_enter Try.func65, Try.ntmps65
  go_wp2_with fail
  refine (htStaff_any _ _).mono ?_
  rintro e w' ⟨rfl, rfl⟩
  rw [h1]
  go_wp2_with fail
  refine (htLong3 _ _ _ _ _ _ (by first | rfl | simp)).mono ?_
  rintro e w' ⟨rfl, rfl⟩
  rw [h2]
  go_wp2
  all_goals (go_ret; exact ⟨by rw [HO.out]; simp, (by repeat (first | exact Below.refl _ _ | refine bl_alloc ?_ _ | refine bl_drewN ?_ _ | refine bl_trans (by assumption) ?_ | refine bl_set ?_ (by first | omega | (simp; done) | (simp; omega)) _))⟩)
set_option maxHeartbeats 400000 in
theorem toIsland_any (s a f g : Int) (w : World) :
    Calls Try.prog 37 #[.agg #[.int .i64 s, .int .i64 a, .int .i64 f, .int .i64 g]] w fun e w' => e = .returned (.agg #[.int .i64 s, .int .i64 a, .int .i64 f, .int .i64 g]) ∧ Below w.heap.size w w' := by
  go_enter Try.func37, Try.ntmps37
  go_wp2
  exact bodyPost_ret (v := .agg #[.int .i64 s, .int .i64 a, .int .i64 f, .int .i64 g]) (by simp [results, Try.results37, go_sem]) rfl ⟨rfl, (by repeat (first | exact Below.refl _ _ | refine bl_alloc ?_ _ | refine bl_drewN ?_ _ | refine bl_trans (by assumption) ?_ | refine bl_set ?_ (by first | omega | (simp; done) | (simp; omega)) _))⟩
set_option maxHeartbeats 400000 in
theorem eqIsland_any (s a f g : Int) (w : World) :
    Calls Try.prog 30 #[.agg #[.int .i64 s, .int .i64 a, .int .i64 f, .int .i64 g], .agg #[.int .i64 s, .int .i64 a, .int .i64 f, .int .i64 g]] w fun e w' => e = .returned (.bool (true)) ∧ Below w.heap.size w w' := by
  go_enter Try.func30, Try.ntmps30
  go_wp2
  go_ret
  exact ⟨rfl, (by repeat (first | exact Below.refl _ _ | refine bl_alloc ?_ _ | refine bl_drewN ?_ _ | refine bl_trans (by assumption) ?_ | refine bl_set ?_ (by first | omega | (simp; done) | (simp; omega)) _))⟩
def tH (f : Int → Int → Int) (s a d : Int) : Int := f (s * a) d
theorem last4 {a b c D : Prop} (k : a ∧ b ∧ c ∧ D) : D := k.2.2.2
theorem last3' {a b D : Prop} (k : a ∧ b ∧ D) : D := k.2.2
end Go.Proofs.Ytahcfjpplkemdaa

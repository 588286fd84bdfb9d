/- Contracts of the functions of chapter 6: walkers, and what is told of their shadows at a minute. -/
import Derived.Test.YtahcfjpplkemdaaS1
namespace Go.Proofs.Ytahcfjpplkemdaa
open Go.RowKit
set_option linter.unusedVariables false
set_option linter.unusedSimpArgs false
theorem frozen_after {u v : World} (hb : Below u.heap.size u v) {n o : Nat} {x : Bool} (hn : n < u.heap.size) (hu : u.frozen? ⟨n, o, none⟩ = x) : v.frozen? ⟨n, o, none⟩ = x := by
  rw [(bcell hb).2 _ _ hn]; exact hu
def Z (ok : Bool) (n : Int) : Int := if ok then n else 0
theorem mul_abs {a b m k : Int} (ha : -m ≤ a) (ha' : a ≤ m) (hb : -k ≤ b) (hb' : b ≤ k) : -(m * k) ≤ a * b ∧ a * b ≤ m * k := by
  have hm : 0 ≤ m := by omega
  have hk : 0 ≤ k := by omega
  rcases Int.le_total 0 a with h | h <;> rcases Int.le_total 0 b with g | g
  · have := mul_bd2 h g ha' hb'; have := Int.mul_nonneg hm hk; omega
  · have := mul_bd2 (b := -b) h (by omega) ha' (by omega : -b ≤ k); rw [Int.mul_neg] at this; omega
  · have := mul_bd2 (a := -a) (by omega) g (by omega : -a ≤ m) hb'; rw [Int.neg_mul] at this; omega
  · have := mul_bd2 (a := -a) (b := -b) (by omega) (by omega) (by omega : -a ≤ m) (by omega : -b ≤ k); rw [Int.neg_mul_neg] at this; omega
def okWk (l h p s : Int) : Bool := okM l && (within h 1 (l - 1) && (within p 0 500 && within s (-50) 50))
theorem okWk_true {l h p s : Int} (e : okWk l h p s = true) : (2 ≤ l ∧ l ≤ 200) ∧ (1 ≤ h ∧ h ≤ l - 1) ∧ (0 ≤ p ∧ p ≤ 500) ∧ -50 ≤ s ∧ s ≤ 50 := by
  simp only [okWk, Bool.and_eq_true] at e
  exact ⟨okM_true e.1, within_true e.2.1, within_true e.2.2.1, within_true e.2.2.2⟩
set_option maxHeartbeats 1000000 in
theorem impl_IsWalker (l h p s : Int) (w : World) :
    Calls Try.prog 40 #[.int .i64 l, .agg #[.int .i64 h, .int .i64 p, .int .i64 s]] w fun e w' => e = .returned (.bool (okWk l h p s)) ∧ Below w.heap.size w w' := by
  cases h1 : okM l
  · go_enter Try.func40, Try.ntmps40
    go_wp2_with (first | (go_at_call 67; refine (impl_isLamp _ _).mono ?_; rintro e w' ⟨rfl, rfl⟩) | (go_at_call 58; refine (isWithin_any _ _ _ _).mono ?_; rintro e w' ⟨rfl, rfl⟩))
    go_ret
    exact ⟨by simp [okWk, h1], (by repeat (first | exact Below.refl _ _ | refine bl_alloc ?_ _ | refine bl_drewN ?_ _ | refine bl_trans (by assumption) ?_ | refine bl_set ?_ (by first | omega | (simp; done) | (simp; omega)) _))⟩
  obtain ⟨l1, l2⟩ := okM_true h1
  cases h2 : within h 1 (l - 1) <;> cases h3 : within p 0 500 <;> cases h4 : within s (-50) 50
  all_goals
    go_enter Try.func40, Try.ntmps40
    go_wp2_with (first | (go_at_call 67; refine (impl_isLamp _ _).mono ?_; rintro e w' ⟨rfl, rfl⟩) | (go_at_call 58; refine (isWithin_any _ _ _ _).mono ?_; rintro e w' ⟨rfl, rfl⟩))
    go_ret
    exact ⟨by simp [okWk, h1, h2, h3, h4], (by repeat (first | exact Below.refl _ _ | refine bl_alloc ?_ _ | refine bl_drewN ?_ _ | refine bl_trans (by assumption) ?_ | refine bl_set ?_ (by first | omega | (simp; done) | (simp; omega)) _))⟩
set_option maxHeartbeats 1000000 in
theorem spec_wkGood (l h p s : Int) (w : World) :
    Calls Try.prog 64 #[.int .i64 l, .agg #[.int .i64 h, .int .i64 p, .int .i64 s]] w fun e w' => e = .returned (.bool (okWk l h p s)) ∧ Below w.heap.size w w' := by
  cases h1 : okM l
  · go_enter Try.func64, Try.ntmps64
    go_wp2_with (first | (go_at_call 81; refine (spec_swLamp _ _).mono ?_; rintro e w' ⟨rfl, rfl⟩) | (go_at_call 54; refine (l1In_any _ _ _ _).mono ?_; rintro e w' ⟨rfl, rfl⟩))
    go_ret
    exact ⟨by simp [okWk, h1], (by repeat (first | exact Below.refl _ _ | refine bl_alloc ?_ _ | refine bl_drewN ?_ _ | refine bl_trans (by assumption) ?_ | refine bl_set ?_ (by first | omega | (simp; done) | (simp; omega)) _))⟩
  obtain ⟨l1, l2⟩ := okM_true h1
  cases h2 : within h 1 (l - 1) <;> cases h3 : within p 0 500 <;> cases h4 : within s (-50) 50
  all_goals
    go_enter Try.func64, Try.ntmps64
    go_wp2_with (first | (go_at_call 81; refine (spec_swLamp _ _).mono ?_; rintro e w' ⟨rfl, rfl⟩) | (go_at_call 54; refine (l1In_any _ _ _ _).mono ?_; rintro e w' ⟨rfl, rfl⟩))
    go_ret
    exact ⟨by simp [okWk, h1, h2, h3, h4], (by repeat (first | exact Below.refl _ _ | refine bl_alloc ?_ _ | refine bl_drewN ?_ _ | refine bl_trans (by assumption) ?_ | refine bl_set ?_ (by first | omega | (simp; done) | (simp; omega)) _))⟩
set_option maxHeartbeats 400000 in
theorem toWalker_any (h p s : Int) (w : World) :
    Calls Try.prog 36 #[.agg #[.int .i64 h, .int .i64 p, .int .i64 s]] w fun e w' => e = .returned (.agg #[.int .i64 h, .int .i64 p, .int .i64 s]) ∧ Below w.heap.size w w' := by
  go_enter Try.func36, Try.ntmps36
  go_wp2
  exact bodyPost_ret (v := .agg #[.int .i64 h, .int .i64 p, .int .i64 s]) (by simp [results, Try.results36, go_sem]) rfl ⟨rfl, (by repeat (first | exact Below.refl _ _ | refine bl_alloc ?_ _ | refine bl_drewN ?_ _ | refine bl_trans (by assumption) ?_ | refine bl_set ?_ (by first | omega | (simp; done) | (simp; omega)) _))⟩
set_option maxHeartbeats 400000 in
theorem eqWalker_any (h p s : Int) (w : World) :
    Calls Try.prog 29 #[.agg #[.int .i64 h, .int .i64 p, .int .i64 s], .agg #[.int .i64 h, .int .i64 p, .int .i64 s]] w fun e w' => e = .returned (.bool (true)) ∧ Below w.heap.size w w' := by
  go_enter Try.func29, Try.ntmps29
  go_wp2
  go_ret
  exact ⟨rfl, (by repeat (first | exact Below.refl _ _ | refine bl_alloc ?_ _ | refine bl_drewN ?_ _ | refine bl_trans (by assumption) ?_ | refine bl_set ?_ (by first | omega | (simp; done) | (simp; omega)) _))⟩
def eqM (m g : Int) : Int := if g < 0 then -m else m
def eqG (g : Int) : Int := if g < 0 then -g else g
def eqOk (m g : Int) : Bool := !(eqG g == 0) && !decide (eqM m g < 0)
theorem eqG_nn (g : Int) : 0 ≤ eqG g := by unfold eqG; split <;> omega
theorem eqG_bd {g k : Int} (h1 : -k ≤ g) (h2 : g ≤ k) : eqG g ≤ k := by unfold eqG; split <;> omega
theorem eqM_bd {m g k : Int} (h1 : -k ≤ m) (h2 : m ≤ k) : -k ≤ eqM m g ∧ eqM m g ≤ k := by unfold eqM; split <;> omega
theorem eqOk_true {m g : Int} (h : eqOk m g = true) : 1 ≤ eqG g ∧ 0 ≤ eqM m g := by
  have := eqG_nn g
  simp only [eqOk, Bool.and_eq_true, Bool.not_eq_true', beq_eq_false_iff_ne, decide_eq_false_iff_not] at h
  omega
end Go.Proofs.Ytahcfjpplkemdaa

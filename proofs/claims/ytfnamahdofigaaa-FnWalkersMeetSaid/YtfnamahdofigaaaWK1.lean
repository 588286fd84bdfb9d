/- Contracts of the functions of chapter 6: walkers, and what is told of their shadows at a minute. -/
import Derived.Test.YtfnamahdofigaaaS1
namespace Go.Proofs.Ytfnamahdofigaaa
open Go.RowKit
set_option linter.unusedVariables false
set_option linter.unusedSimpArgs false
theorem frozen_after {u v : World} (hb : Below u.heap.size u v) {n o : Nat} {x : Bool} (hn : n < u.heap.size) (hu : u.frozen? ⟨n, o, none⟩ = x) : v.frozen? ⟨n, o, none⟩ = x := by
  rw [(bcell hb).2 _ _ hn]; exact hu
def Z (ok : Bool) (n : Int) : Int := if ok then n else 0
theorem mul_abs {a b m k : Int} (ha : -m ≤ a) (ha' : a ≤ m) (hb : -k ≤ b) (hb' : b ≤ k) : -(m * k) ≤ a * b ∧ a * b ≤ m * k := by
  have hm : 0 ≤ m := by omega
  have hk : 0 ≤ k := by omega
  rcases Int.le_total 0 a with h | h <;> rcases Int.le_total 0 b with g | g
  · have := mul_bd2 h g ha' hb'; have := Int.mul_nonneg hm hk; omega
  · have := mul_bd2 (b := -b) h (by omega) ha' (by omega : -b ≤ k); rw [Int.mul_neg] at this; omega
  · have := mul_bd2 (a := -a) (by omega) g (by omega : -a ≤ m) hb'; rw [Int.neg_mul] at this; omega
  · have := mul_bd2 (a := -a) (b := -b) (by omega) (by omega) (by omega : -a ≤ m) (by omega : -b ≤ k); rw [Int.neg_mul_neg] at this; omega
def okWk (l h p s : Int) : Bool := okM l && (within h 1 (l - 1) && (within p 0 500 && within s (-50) 50))
theorem okWk_true {l h p s : Int} (e : okWk l h p s = true) : (2 ≤ l ∧ l ≤ 200) ∧ (1 ≤ h ∧ h ≤ l - 1) ∧ (0 ≤ p ∧ p ≤ 500) ∧ -50 ≤ s ∧ s ≤ 50 := by
  simp only [okWk, Bool.and_eq_true] at e
  exact ⟨okM_true e.1, within_true e.2.1, within_true e.2.2.1, within_true e.2.2.2⟩
set_option maxHeartbeats 1000000 in
theorem impl_IsWalker (l h p s : Int) (w : World) :
    Calls Try.prog 12 #[.int .i64 l, .agg #[.int .i64 h, .int .i64 p, .int .i64 s]] w fun e w' => e = .returned (.bool (okWk l h p s)) ∧ Below w.heap.size w w' := by
  cases h1 : okM l
  · go_enter Try.func12, Try.ntmps12
    go_wp2_with (first | (go_at_call 34; refine (impl_isLamp _ _).mono ?_; rintro e w' ⟨rfl, rfl⟩) | (go_at_call 35; refine (isWithin_any _ _ _ _).mono ?_; rintro e w' ⟨rfl, rfl⟩))
    go_ret
    exact ⟨by simp [okWk, h1], (by repeat (first | exact Below.refl _ _ | refine bl_alloc ?_ _ | refine bl_drewN ?_ _ | refine bl_trans (by assumption) ?_ | refine bl_set ?_ (by first | omega | (simp; done) | (simp; omega)) _))⟩
  obtain ⟨l1, l2⟩ := okM_true h1
  cases h2 : within h 1 (l - 1) <;> cases h3 : within p 0 500 <;> cases h4 : within s (-50) 50
  all_goals
    go_enter Try.func12, Try.ntmps12
    go_wp2_with (first | (go_at_call 34; refine (impl_isLamp _ _).mono ?_; rintro e w' ⟨rfl, rfl⟩) | (go_at_call 35; refine (isWithin_any _ _ _ _).mono ?_; rintro e w' ⟨rfl, rfl⟩))
    go_ret
    exact ⟨by simp [okWk, h1, h2, h3, h4], (by repeat (first | exact Below.refl _ _ | refine bl_alloc ?_ _ | refine bl_drewN ?_ _ | refine bl_trans (by assumption) ?_ | refine bl_set ?_ (by first | omega | (simp; done) | (simp; omega)) _))⟩
set_option maxHeartbeats 1000000 in
theorem spec_wkGood (l h p s : Int) (w : World) :
    Calls Try.prog 29 #[.int .i64 l, .agg #[.int .i64 h, .int .i64 p, .int .i64 s]] w fun e w' => e = .returned (.bool (okWk l h p s)) ∧ Below w.heap.size w w' := by
  cases h1 : okM l
  · go_enter Try.func29, Try.ntmps29
    go_wp2_with (first | (go_at_call 52; refine (spec_swLamp _ _).mono ?_; rintro e w' ⟨rfl, rfl⟩) | (go_at_call 47; refine (l1In_any _ _ _ _).mono ?_; rintro e w' ⟨rfl, rfl⟩))
    go_ret
    exact ⟨by simp [okWk, h1], (by repeat (first | exact Below.refl _ _ | refine bl_alloc ?_ _ | refine bl_drewN ?_ _ | refine bl_trans (by assumption) ?_ | refine bl_set ?_ (by first | omega | (simp; done) | (simp; omega)) _))⟩
  obtain ⟨l1, l2⟩ := okM_true h1
  cases h2 : within h 1 (l - 1) <;> cases h3 : within p 0 500 <;> cases h4 : within s (-50) 50
  all_goals
    go_enter Try.func29, Try.ntmps29
    go_wp2_with (first | (go_at_call 52; refine (spec_swLamp _ _).mono ?_; rintro e w' ⟨rfl, rfl⟩) | (go_at_call 47; refine (l1In_any _ _ _ _).mono ?_; rintro e w' ⟨rfl, rfl⟩))
    go_ret
    exact ⟨by simp [okWk, h1, h2, h3, h4], (by repeat (first | exact Below.refl _ _ | refine bl_alloc ?_ _ | refine bl_drewN ?_ _ | refine bl_trans (by assumption) ?_ | refine bl_set ?_ (by first | omega | (simp; done) | (simp; omega)) _))⟩
set_option maxHeartbeats 1000000 in
theorem foot_any (h p s l : Int) (w : World) :
    Calls Try.prog 33 #[.agg #[.int .i64 h, .int .i64 p, .int .i64 s, .int .i64 l]] w fun e w' => e = .returned (.agg #[.int .i64 (p), .int .i64 (s), .int .i64 (1)]) ∧ Below w.heap.size w w' := by
  go_enter Try.func33, Try.ntmps33
  go_wp2
  exact bodyPost_ret (v := .agg #[.int .i64 (p), .int .i64 (s), .int .i64 (1)]) (by simp [results, Try.results33, go_sem]) rfl ⟨rfl, (by repeat (first | exact Below.refl _ _ | refine bl_alloc ?_ _ | refine bl_drewN ?_ _ | refine bl_trans (by assumption) ?_ | refine bl_set ?_ (by first | omega | (simp; done) | (simp; omega)) _))⟩
set_option maxHeartbeats 1000000 in
theorem tip_any (h p s l : Int) (hk : okWk l h p s = true) (w : World) :
    Calls Try.prog 28 #[.agg #[.int .i64 h, .int .i64 p, .int .i64 s, .int .i64 l]] w fun e w' => e = .returned (.agg #[.int .i64 (p * l), .int .i64 (s * l), .int .i64 (l - h)]) ∧ Below w.heap.size w w' := by
  obtain ⟨⟨l1, l2⟩, ⟨h1, h2⟩, ⟨p1, p2⟩, s1, s2⟩ := okWk_true hk
  obtain ⟨f1, f2⟩ := mul_bd2 (a := p) (b := l) (m := 500) (k := 200) (by omega) (by omega) (by omega) (by omega)
  obtain ⟨f3, f4⟩ := mul_abs (a := s) (b := l) (m := 50) (k := 200) (by omega) (by omega) (by omega) (by omega)
  go_enter Try.func28, Try.ntmps28
  go_wp2
  exact bodyPost_ret (v := .agg #[.int .i64 (p * l), .int .i64 (s * l), .int .i64 (l - h)]) (by simp [results, Try.results28, go_sem]) rfl ⟨rfl, (by repeat (first | exact Below.refl _ _ | refine bl_alloc ?_ _ | refine bl_drewN ?_ _ | refine bl_trans (by assumption) ?_ | refine bl_set ?_ (by first | omega | (simp; done) | (simp; omega)) _))⟩
def eqM (m g : Int) : Int := if g < 0 then -m else m
def eqG (g : Int) : Int := if g < 0 then -g else g
def eqOk (m g : Int) : Bool := !(eqG g == 0) && !decide (eqM m g < 0)
theorem eqG_nn (g : Int) : 0 ≤ eqG g := by unfold eqG; split <;> omega
theorem eqG_bd {g k : Int} (h1 : -k ≤ g) (h2 : g ≤ k) : eqG g ≤ k := by unfold eqG; split <;> omega
theorem eqM_bd {m g k : Int} (h1 : -k ≤ m) (h2 : m ≤ k) : -k ≤ eqM m g ∧ eqM m g ≤ k := by unfold eqM; split <;> omega
theorem eqOk_true {m g : Int} (h : eqOk m g = true) : 1 ≤ eqG g ∧ 0 ≤ eqM m g := by
  have := eqG_nn g
  simp only [eqOk, Bool.and_eq_true, Bool.not_eq_true', beq_eq_false_iff_ne, decide_eq_false_iff_not] at h
  omega
set_option maxHeartbeats 2000000 in
theorem equals_any (a b c x y z : Int) (a1 : -100000 ≤ a) (a2 : a ≤ 100000) (b1 : -100000 ≤ b) (b2 : b ≤ 100000) (c1 : 1 ≤ c) (c2 : c ≤ 200) (x1 : -100000 ≤ x) (x2 : x ≤ 100000) (y1 : -100000 ≤ y) (y2 : y ≤ 100000) (z1 : 1 ≤ z) (z2 : z ≤ 200) (w : World) :
    Calls Try.prog 51 #[.agg #[.int .i64 a, .int .i64 b, .int .i64 c], .agg #[.int .i64 x, .int .i64 y, .int .i64 z]] w fun e w' => e = .returned (.tuple #[.int .i64 (Z (eqOk (x * c - a * z) (b * z - y * c)) (ln (eqM (x * c - a * z) (b * z - y * c)) (eqG (b * z - y * c)))), .int .i64 (Z (eqOk (x * c - a * z) (b * z - y * c)) (ld (eqM (x * c - a * z) (b * z - y * c)) (eqG (b * z - y * c)))), .bool (eqOk (x * c - a * z) (b * z - y * c))]) ∧ Below w.heap.size w w' := by
  obtain ⟨f1, f2⟩ := mul_abs (a := x) (b := c) (m := 100000) (k := 200) (by omega) (by omega) (by omega) (by omega)
  obtain ⟨f3, f4⟩ := mul_abs (a := a) (b := z) (m := 100000) (k := 200) (by omega) (by omega) (by omega) (by omega)
  obtain ⟨f5, f6⟩ := mul_abs (a := b) (b := z) (m := 100000) (k := 200) (by omega) (by omega) (by omega) (by omega)
  obtain ⟨f7, f8⟩ := mul_abs (a := y) (b := c) (m := 100000) (k := 200) (by omega) (by omega) (by omega) (by omega)
  have m1 : -40000000 ≤ x * c - a * z := by omega
  have m2 : x * c - a * z ≤ 40000000 := by omega
  have g1 : -40000000 ≤ b * z - y * c := by omega
  have g2 : b * z - y * c ≤ 40000000 := by omega
  by_cases n : b * z - y * c < 0
  · have E1 : eqM (x * c - a * z) (b * z - y * c) = -(x * c - a * z) := if_pos n
    have E2 : eqG (b * z - y * c) = -(b * z - y * c) := if_pos n
    have n1 : ((-(b * z - y * c)) == 0) = false := by simp; omega
    by_cases q : a * z < x * c
    · have HO := Lib.hid (show eqOk (x * c - a * z) (b * z - y * c) = false by simp [eqOk, E1, E2]; omega)
      clear E1 E2
      go_enter Try.func51, Try.ntmps51
      go_wp2_with fail
      go_wp2
      go_ret3
      exact ⟨by simp [HO.out, Z], (by repeat (first | exact Below.refl _ _ | refine bl_alloc ?_ _ | refine bl_drewN ?_ _ | refine bl_trans (by assumption) ?_ | refine bl_set ?_ (by first | omega | (simp; done) | (simp; omega)) _))⟩
    · have HO := Lib.hid (show eqOk (x * c - a * z) (b * z - y * c) = true by simp [eqOk, E1, E2]; omega)
      have HF := fun W => Lib.hid (toldFraction_any (-(x * c - a * z)) (-(b * z - y * c)) (by omega) (by omega) (by omega) (by omega) W)
      rw [E1, E2]
      clear E1 E2
      go_enter Try.func51, Try.ntmps51
      go_wp2_with fail
      refine ((HF _).out).mono ?_
      rintro e w' ⟨rfl, nn, rfl⟩
      go_wp2
      go_ret3
      exact ⟨by rw [HO.out]; rfl, (by repeat (first | exact Below.refl _ _ | refine bl_alloc ?_ _ | refine bl_drewN ?_ _ | refine bl_trans (by assumption) ?_ | refine bl_set ?_ (by first | omega | (simp; done) | (simp; omega)) _))⟩
  · have E1 : eqM (x * c - a * z) (b * z - y * c) = x * c - a * z := if_neg n
    have E2 : eqG (b * z - y * c) = b * z - y * c := if_neg n
    by_cases r : b * z - y * c = 0
    · have HO := Lib.hid (show eqOk (x * c - a * z) (b * z - y * c) = false by unfold eqOk; rw [E2, r]; rfl)
      have n1 : (b * z - y * c == 0) = true := by simp [r]
      clear r
      clear E1 E2
      go_enter Try.func51, Try.ntmps51
      go_wp2_with fail
      go_wp2
      go_ret3
      exact ⟨by simp [HO.out, Z], (by repeat (first | exact Below.refl _ _ | refine bl_alloc ?_ _ | refine bl_drewN ?_ _ | refine bl_trans (by assumption) ?_ | refine bl_set ?_ (by first | omega | (simp; done) | (simp; omega)) _))⟩
    have n1 : (b * z - y * c == 0) = false := by simp [r]
    by_cases q : x * c - a * z < 0
    · have HO := Lib.hid (show eqOk (x * c - a * z) (b * z - y * c) = false by simp [eqOk, E1, E2, q])
      clear E1 E2
      go_enter Try.func51, Try.ntmps51
      go_wp2_with fail
      go_wp2
      go_ret3
      exact ⟨by simp [HO.out, Z], (by repeat (first | exact Below.refl _ _ | refine bl_alloc ?_ _ | refine bl_drewN ?_ _ | refine bl_trans (by assumption) ?_ | refine bl_set ?_ (by first | omega | (simp; done) | (simp; omega)) _))⟩
    · have HO := Lib.hid (show eqOk (x * c - a * z) (b * z - y * c) = true by simp [eqOk, E1, E2]; omega)
      have HF := fun W => Lib.hid (toldFraction_any (x * c - a * z) (b * z - y * c) (by omega) (by omega) (by omega) (by omega) W)
      rw [E1, E2]
      clear E1 E2
      go_enter Try.func51, Try.ntmps51
      go_wp2_with fail
      refine ((HF _).out).mono ?_
      rintro e w' ⟨rfl, nn, rfl⟩
      go_wp2
      go_ret3
      exact ⟨by rw [HO.out]; rfl, (by repeat (first | exact Below.refl _ _ | refine bl_alloc ?_ _ | refine bl_drewN ?_ _ | refine bl_trans (by assumption) ?_ | refine bl_set ?_ (by first | omega | (simp; done) | (simp; omega)) _))⟩
end Go.Proofs.Ytfnamahdofigaaa

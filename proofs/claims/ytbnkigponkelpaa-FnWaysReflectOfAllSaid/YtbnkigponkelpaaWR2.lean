/- What the law FnWaysReflectOfAll asks of the touches: numbers. -/
import Derived.Test.YtbnkigponkelpaaLWT
import Derived.Test.YtbnkigponkelpaaWR1
namespace Go.Proofs.Ytbnkigponkelpaa
open Go.RowKit
set_option linter.unusedVariables false
set_option linter.unusedSimpArgs false
theorem Z_t (n : Int) : Z true n = n := rfl
theorem low_mul {l x y : Int} (hl : 1 ≤ l) (hx : 0 ≤ x) (hy : 1 ≤ y) : ln (l * x) (l * y) = ln x y ∧ ld (l * x) (l * y) = ld x y := by
  obtain ⟨a, rfl⟩ := Int.eq_ofNat_of_zero_le (show 0 ≤ l by omega)
  obtain ⟨m, rfl⟩ := Int.eq_ofNat_of_zero_le hx
  obtain ⟨n, rfl⟩ := Int.eq_ofNat_of_zero_le (show 0 ≤ y by omega)
  rw [← Int.natCast_mul, ← Int.natCast_mul, ln_nat, ln_nat, ld_nat, ld_nat, Nat.gcd_mul_left]
  constructor
  · rw [Nat.mul_div_mul_left _ _ (by omega)]
  · rw [Nat.mul_div_mul_left _ _ (by omega)]
theorem cross {x y : Int} (hx : 0 ≤ x) (hy : 1 ≤ y) : ln x y * y = ld x y * x := by
  obtain ⟨m, rfl⟩ := Int.eq_ofNat_of_zero_le hx
  obtain ⟨n, rfl⟩ := Int.eq_ofNat_of_zero_le (show 0 ≤ y by omega)
  rw [ln_nat, ld_nat, ← Int.natCast_mul, ← Int.natCast_mul]
  have h1 : Nat.gcd m n ∣ m := Nat.gcd_dvd_left _ _
  have h2 : Nat.gcd m n ∣ n := Nat.gcd_dvd_right _ _
  have hg : 0 < Nat.gcd m n := Nat.gcd_pos_of_pos_right _ (by omega)
  congr 1
  obtain ⟨u, hu⟩ := h1
  obtain ⟨v, hv⟩ := h2
  generalize Nat.gcd m n = g at *
  subst hu hv
  rw [Nat.mul_div_cancel_left _ hg, Nat.mul_div_cancel_left _ hg, ← Nat.mul_assoc, ← Nat.mul_assoc, Nat.mul_comm u, Nat.mul_comm v, Nat.mul_assoc, Nat.mul_assoc, Nat.mul_comm u v]
theorem low_gcd {x y : Int} (hx : 0 ≤ x) (hy : 1 ≤ y) : Nat.gcd (ln x y).toNat (ld x y).toNat = 1 := by
  obtain ⟨m, rfl⟩ := Int.eq_ofNat_of_zero_le hx
  obtain ⟨n, rfl⟩ := Int.eq_ofNat_of_zero_le (show 0 ≤ y by omega)
  rw [ln_nat, ld_nat, Int.toNat_natCast, Int.toNat_natCast]
  exact Nat.gcd_div_gcd_div_gcd_of_pos_right (by omega)
theorem low_unique {a b c d : Int} (ha : 0 ≤ a) (hb : 1 ≤ b) (hc : 0 ≤ c) (hd : 1 ≤ d) (e : a * d = c * b) : ln a b = ln c d ∧ ld a b = ld c d := by
  obtain ⟨p1, p2⟩ := low_mul hd ha hb
  obtain ⟨q1, q2⟩ := low_mul hb hc hd
  rw [Int.mul_comm d a, e, Int.mul_comm d b, Int.mul_comm c b] at p1 p2
  exact ⟨p1.symm.trans q1, p2.symm.trans q2⟩
theorem lnI_neg (n a : Int) (ha : 1 ≤ a) : lnI (-n) a = -(lnI n a) ∧ ldI (-n) a = ldI n a := by
  unfold lnI ldI
  rcases Int.lt_trichotomy n 0 with h | h | h
  · rw [if_neg (by omega), if_pos h, if_neg (by omega), if_pos h]; omega
  · subst h
    obtain ⟨h1, h2⟩ := ln_bd (n := 0) (a := a) (by omega) ha
    simp only [Int.neg_zero, Int.lt_irrefl, if_false]
    exact ⟨by omega, trivial⟩
  · rw [if_pos (by omega), if_neg (by omega), if_pos (by omega), if_neg (by omega), Int.neg_neg]; exact ⟨rfl, rfl⟩
theorem lnI_cross (n a : Int) (ha : 1 ≤ a) : lnI n a * a = ldI n a * n := by
  unfold lnI ldI
  by_cases h : n < 0
  · rw [if_pos h, if_pos h]
    have := cross (x := -n) (y := a) (by omega) ha
    rw [Int.neg_mul, this, Int.mul_neg, Int.neg_neg]
  · rw [if_neg h, if_neg h]
    exact cross (by omega) ha
theorem lnI_gcd (n a : Int) (ha : 1 ≤ a) : Nat.gcd (lnI n a).natAbs (ldI n a).toNat = 1 := by
  unfold lnI ldI
  by_cases h : n < 0
  · rw [if_pos h, if_pos h, Int.natAbs_neg]
    have := low_gcd (x := -n) (y := a) (by omega) ha
    obtain ⟨h1, _⟩ := ln_bd (n := -n) (a := a) (by omega) ha
    rw [show (ln (-n) a).natAbs = (ln (-n) a).toNat by omega]
    exact this
  · rw [if_neg h, if_neg h]
    have := low_gcd (x := n) (y := a) (by omega) ha
    obtain ⟨h1, _⟩ := ln_bd (n := n) (a := a) (by omega) ha
    rw [show (ln n a).natAbs = (ln n a).toNat by omega]
    exact this
theorem ld_pos' {n a : Int} (ha : 1 ≤ a) : 1 ≤ ld n a ∧ ld n a ≤ a := by
  obtain ⟨m, rfl⟩ := Int.eq_ofNat_of_zero_le (show 0 ≤ a by omega)
  unfold ld
  have hd : Nat.gcd n.toNat m ∣ m := Nat.gcd_dvd_right _ _
  have hg : 0 < Nat.gcd n.toNat m := Nat.gcd_pos_of_pos_right _ (by omega)
  have h1 : 0 < m / Nat.gcd n.toNat m := Nat.div_pos (Nat.le_of_dvd (by omega) hd) hg
  have h2 : m / Nat.gcd n.toNat m ≤ m := Nat.div_le_self _ _
  simp only [Int.toNat_natCast] at *
  omega
theorem ldI_pos {n a : Int} (ha : 1 ≤ a) : 1 ≤ ldI n a ∧ ldI n a ≤ a := by
  unfold ldI; split <;> exact ld_pos' ha
/-- what a touch is -/
structure Touch (a b c d N D : Int) : Prop where
  d1 : 1 ≤ D
  d2 : D ≤ 2000
  n1 : -300000000 ≤ N
  n2 : N ≤ 300000000
  g : Nat.gcd N.natAbs D.toNat = 1
  e : (N - a * D) * d = (c * D - N) * b
theorem touches {a b c d : Int} (h : okSp2 a b c d = true) : Touch a b c d (lnI (tN a c b (b + d)) (b + d)) (ldI (tN a c b (b + d)) (b + d)) := by
  simp only [okSp2, Bool.and_eq_true] at h
  obtain ⟨⟨a1, a2⟩, b1, b2⟩ := okSp_true h.1
  obtain ⟨⟨c1, c2⟩, d1, d2⟩ := okSp_true h.2
  have hb := tN_bd (f := a) (t := c) (p := b) (r := b + d) a1 a2 c1 c2 (by omega) (by omega) (by omega)
  obtain ⟨_, _, t1, t2⟩ := hb
  obtain ⟨n1, n2⟩ := lnI_bd (n := tN a c b (b + d)) (a := b + d) (m := 300000000) t1 t2 (by omega)
  obtain ⟨e1, e2⟩ := ldI_pos (n := tN a c b (b + d)) (a := b + d) (by omega)
  have hc := lnI_cross (tN a c b (b + d)) (b + d) (by omega)
  refine ⟨e1, by omega, n1, n2, lnI_gcd _ _ (by omega), ?_⟩
  generalize lnI (tN a c b (b + d)) (b + d) = N at *
  generalize ldI (tN a c b (b + d)) (b + d) = D at *
  unfold tN at hc
  grind
theorem tN_swap (a b c d : Int) : tN c a d (d + b) = tN a c b (b + d) := by unfold tN; grind
theorem tN_turn (a b c d : Int) : tN (-a) (-c) b (b + d) = -(tN a c b (b + d)) := by unfold tN; grind
theorem sq_touch (a b c d : Int) : sq (a - c) (b + d) = sq (a - c) (b - d) + 4 * b * d := by unfold sq; grind
end Go.Proofs.Ytbnkigponkelpaa

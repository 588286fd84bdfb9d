/- Fractions in lowest terms; yLow, yIs. -/
import Derived.Test.YtgbefdkldgihdaaS1
namespace Go.Proofs.Ytgbefdkldgihdaa
open Go.RowKit
set_option linter.unusedVariables false
set_option linter.unusedSimpArgs false
theorem low_mul {l x y : Int} (hl : 1 ≤ l) (hx : 0 ≤ x) (hy : 1 ≤ y) : ln (l * x) (l * y) = ln x y ∧ ld (l * x) (l * y) = ld x y := by
  obtain ⟨a, rfl⟩ := Int.eq_ofNat_of_zero_le (show 0 ≤ l by omega)
  obtain ⟨m, rfl⟩ := Int.eq_ofNat_of_zero_le hx
  obtain ⟨n, rfl⟩ := Int.eq_ofNat_of_zero_le (show 0 ≤ y by omega)
  rw [← Int.natCast_mul, ← Int.natCast_mul, ln_nat, ln_nat, ld_nat, ld_nat, Nat.gcd_mul_left]
  constructor
  · rw [Nat.mul_div_mul_left _ _ (by omega)]
  · rw [Nat.mul_div_mul_left _ _ (by omega)]
theorem cross {x y : Int} (hx : 0 ≤ x) (hy : 1 ≤ y) : ln x y * y = ld x y * x := by
  obtain ⟨m, rfl⟩ := Int.eq_ofNat_of_zero_le hx
  obtain ⟨n, rfl⟩ := Int.eq_ofNat_of_zero_le (show 0 ≤ y by omega)
  rw [ln_nat, ld_nat, ← Int.natCast_mul, ← Int.natCast_mul]
  have h1 : Nat.gcd m n ∣ m := Nat.gcd_dvd_left _ _
  have h2 : Nat.gcd m n ∣ n := Nat.gcd_dvd_right _ _
  have hg : 0 < Nat.gcd m n := Nat.gcd_pos_of_pos_right _ (by omega)
  congr 1
  obtain ⟨u, hu⟩ := h1
  obtain ⟨v, hv⟩ := h2
  generalize Nat.gcd m n = g at *
  subst hu hv
  rw [Nat.mul_div_cancel_left _ hg, Nat.mul_div_cancel_left _ hg, ← Nat.mul_assoc, ← Nat.mul_assoc, Nat.mul_comm u, Nat.mul_comm v, Nat.mul_assoc, Nat.mul_assoc, Nat.mul_comm u v]
theorem low_gcd {x y : Int} (hx : 0 ≤ x) (hy : 1 ≤ y) : Nat.gcd (ln x y).toNat (ld x y).toNat = 1 := by
  obtain ⟨m, rfl⟩ := Int.eq_ofNat_of_zero_le hx
  obtain ⟨n, rfl⟩ := Int.eq_ofNat_of_zero_le (show 0 ≤ y by omega)
  rw [ln_nat, ld_nat, Int.toNat_natCast, Int.toNat_natCast]
  exact Nat.gcd_div_gcd_div_gcd_of_pos_right (by omega)
theorem low_unique {a b c d : Int} (ha : 0 ≤ a) (hb : 1 ≤ b) (hc : 0 ≤ c) (hd : 1 ≤ d) (e : a * d = c * b) : ln a b = ln c d ∧ ld a b = ld c d := by
  obtain ⟨p1, p2⟩ := low_mul hd ha hb
  obtain ⟨q1, q2⟩ := low_mul hb hc hd
  rw [Int.mul_comm d a, e, Int.mul_comm d b, Int.mul_comm c b] at p1 p2
  exact ⟨p1.symm.trans q1, p2.symm.trans q2⟩
set_option maxHeartbeats 1000000 in
theorem yLow_any (x y : Nat) (hx : x ≤ 4611686018427387904) (hy : 1 ≤ y) (hy' : y ≤ 4611686018427387904) (w : World) :
    Calls Try.prog 18 #[.int .i64 x, .int .i64 y] w fun e w' => e = .returned (.bool (Nat.gcd x y == 1)) ∧ ∃ n, w' = w.drewN n := by
  have i0 : ¬ (x : Int) < 0 := by omega
  have i1 : ¬ (y : Int) < 1 := by omega
  go_enter Try.func18, Try.ntmps18
  go_wp2_with fail
  go_loopw [5, 6] (fun a b wr => ∃ p q n : Nat, a = .int .i64 p ∧ b = .int .i64 q ∧ p ≤ 4611686018427387904 ∧ q ≤ 4611686018427387904 ∧ Nat.gcd p q = Nat.gcd x y ∧ wr = w.drewN n) (fun _ b _ => (intOf b).toNat)
  case atStart => exact ⟨x, y, 0, rfl, rfl, by omega, by omega, rfl, rfl⟩
  case round =>
    obtain ⟨p, q, n, rfl, rfl, hp, hq, hg, rfl⟩ := hrel
    have Hg := Lib.hid hg
    clear hg
    by_cases hq0 : 1 ≤ q
    · go_wp2_with fail
      go_quiet (fail)
      go_wp2
      have hm : p % q < q := Nat.mod_lt _ (by omega)
      exact ⟨⟨q, p % q, n + nq, rfl, by simp, hq, by omega, by rw [gcd_step p q (by omega), Hg.out], by simp⟩, by simp only [intOf]; omega⟩
    · obtain rfl : q = 0 := by omega
      rw [Nat.gcd_zero_right] at Hg
      have HE := Lib.hid (show (Nat.gcd x y == 1) = ((p : Int) == 1) by
        rw [← Hg.out, Bool.eq_iff_iff, beq_iff_eq, beq_iff_eq]; omega)
      go_wp2
      go_ret
      exact ⟨by rw [HE.out]; rfl, n, rfl⟩
theorem yLow_int {x y : Int} (hx : 0 ≤ x) (hx' : x ≤ 4611686018427387904) (hy : 1 ≤ y) (hy' : y ≤ 4611686018427387904) (hg : Nat.gcd x.toNat y.toNat = 1) (w : World) :
    Calls Try.prog 18 #[.int .i64 x, .int .i64 y] w fun e w' => e = .returned (.bool true) ∧ ∃ n, w' = w.drewN n := by
  have h := yLow_any x.toNat y.toNat (by omega) (by omega) (by omega) w
  rw [hg, Int.toNat_of_nonneg hx, Int.toNat_of_nonneg (by omega)] at h
  exact h
set_option maxHeartbeats 1000000 in
theorem yIs_any {n d x y : Int} (n0 : 0 ≤ n) (n1 : n ≤ 4611686018427387904) (d0 : 1 ≤ d) (d1 : d ≤ 4611686018427387904) (hg : Nat.gcd n.toNat d.toNat = 1) (b0 : 0 ≤ n * y) (b1 : n * y ≤ 4611686018427387904) (e : n * y = x * d) (w : World) :
    Calls Try.prog 14 #[.int .i64 n, .int .i64 d, .int .i64 x, .int .i64 y] w fun e w' => e = .returned (.bool true) ∧ ∃ m, w' = w.drewN m := by
  have HY := fun W => Lib.hid (yLow_int n0 n1 d0 d1 hg W)
  have b2 : 0 ≤ x * d := by omega
  have b3 : x * d ≤ 4611686018427387904 := by omega
  have E := Lib.hid e
  have hq : (n * y == x * d) = true := by rw [e, beq_self_eq_true]
  clear e
  go_enter Try.func14, Try.ntmps14
  go_wp2_with fail
  refine ((HY _).out).mono ?_
  rintro e w' ⟨rfl, m, rfl⟩
  go_wp2
  go_ret
  exact ⟨by simp [hq], m, rfl⟩
end Go.Proofs.Ytgbefdkldgihdaa

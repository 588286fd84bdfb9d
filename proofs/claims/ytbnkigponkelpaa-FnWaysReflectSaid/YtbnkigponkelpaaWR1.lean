/- Numbers and rows as the laws compare them: jLow, jSize, jSame. -/
import Derived.Test.YtbnkigponkelpaaR1
namespace Go.Proofs.Ytbnkigponkelpaa
open Go.RowKit
set_option linter.unusedVariables false
set_option linter.unusedSimpArgs false
set_option maxHeartbeats 2000000 in
theorem jLow_any (x : Int) (y : Nat) (h1 : -4611686018427387904 ≤ x) (h2 : x ≤ 4611686018427387904) (hy : 1 ≤ y) (hy' : y ≤ 4611686018427387904) (w : World) :
    Calls Try.prog 18 #[.int .i64 x, .int .i64 y] w fun e w' => e = .returned (.bool (Nat.gcd x.natAbs y == 1)) ∧ ∃ n, w' = w.drewN n := by
  have i1 : ¬ (y : Int) < 1 := by omega
  go_enter Try.func18, Try.ntmps18
  by_cases hx : x < 0
  · obtain ⟨k, hk⟩ := Int.eq_ofNat_of_zero_le (show 0 ≤ -x by omega)
    have hxk : x = -(k : Int) := by omega
    have hab : x.natAbs = k := by omega
    rw [hab]
    have hneg : IntKind.i64.wrap (-x) = (k : Int) := by rw [hk]; exact IntWalk.i64_in _ ⟨by omega, by omega⟩
    clear hk hab
    go_wp2_with fail
    go_loopw [5, 6] (fun a b wr => ∃ p q n : Nat, a = .int .i64 p ∧ b = .int .i64 q ∧ p ≤ 4611686018427387904 ∧ q ≤ 4611686018427387904 ∧ Nat.gcd p q = Nat.gcd k y ∧ wr = w.drewN n) (fun _ b _ => (intOf b).toNat)
    case atStart => exact ⟨k, y, 0, rfl, rfl, by omega, by omega, rfl, rfl⟩
    case round =>
      obtain ⟨p, q, n, rfl, rfl, hp, hq, hg, rfl⟩ := hrel
      have Hg := Lib.hid hg
      clear hg
      by_cases hq0 : 1 ≤ q
      · go_wp2_with fail
        go_quiet (fail)
        go_wp2
        have hm : p % q < q := Nat.mod_lt _ (by omega)
        exact ⟨⟨q, p % q, n + nq, rfl, by simp, hq, by omega, by rw [gcd_step p q (by omega), Hg.out], by simp⟩, by simp only [intOf]; omega⟩
      · obtain rfl : q = 0 := by omega
        rw [Nat.gcd_zero_right] at Hg
        have HE := Lib.hid (show (Nat.gcd k y == 1) = ((p : Int) == 1) by
          rw [← Hg.out, Bool.eq_iff_iff, beq_iff_eq, beq_iff_eq]; omega)
        go_wp2
        go_ret
        exact ⟨by rw [HE.out]; rfl, n, rfl⟩
  · obtain ⟨k, hk⟩ := Int.eq_ofNat_of_zero_le (show 0 ≤ x by omega)
    subst hk
    rw [Int.natAbs_natCast]
    go_wp2_with fail
    go_loopw [5, 6] (fun a b wr => ∃ p q n : Nat, a = .int .i64 p ∧ b = .int .i64 q ∧ p ≤ 4611686018427387904 ∧ q ≤ 4611686018427387904 ∧ Nat.gcd p q = Nat.gcd k y ∧ wr = w.drewN n) (fun _ b _ => (intOf b).toNat)
    case atStart => exact ⟨k, y, 0, rfl, rfl, by omega, by omega, rfl, rfl⟩
    case round =>
      obtain ⟨p, q, n, rfl, rfl, hp, hq, hg, rfl⟩ := hrel
      have Hg := Lib.hid hg
      clear hg
      by_cases hq0 : 1 ≤ q
      · go_wp2_with fail
        go_quiet (fail)
        go_wp2
        have hm : p % q < q := Nat.mod_lt _ (by omega)
        exact ⟨⟨q, p % q, n + nq, rfl, by simp, hq, by omega, by rw [gcd_step p q (by omega), Hg.out], by simp⟩, by simp only [intOf]; omega⟩
      · obtain rfl : q = 0 := by omega
        rw [Nat.gcd_zero_right] at Hg
        have HE := Lib.hid (show (Nat.gcd k y == 1) = ((p : Int) == 1) by
          rw [← Hg.out, Bool.eq_iff_iff, beq_iff_eq, beq_iff_eq]; omega)
        go_wp2
        go_ret
        exact ⟨by rw [HE.out]; rfl, n, rfl⟩
theorem jSize_any (x : Int) (h1 : -4611686018427387904 ≤ x) (h2 : x ≤ 4611686018427387904) (w : World) :
    Calls Try.prog 30 #[.int .i64 x] w fun e w' => e = .returned (.int .i64 (if x < 0 then -x else x)) ∧ w = w' := by
  have hneg : IntKind.i64.wrap (-x) = -x := IntWalk.i64_in _ ⟨by omega, by omega⟩
  by_cases hx : x < 0
  · rw [if_pos hx]
    go_enter Try.func30, Try.ntmps30
    go_wp2
    go_ret
    exact ⟨rfl, rfl⟩
  · rw [if_neg hx]
    go_enter Try.func30, Try.ntmps30
    go_wp2
    go_ret
    exact ⟨rfl, rfl⟩
theorem jSame_any (v u : Value) (xs : List Int) (B C : Nat) (w : World) (h1 : IRow w B v xs) (h2 : IRow w C u xs) :
    Calls Try.prog 29 #[v, u] w fun e w' => e = .returned (.bool true) ∧ ∃ n, w' = w.drewN n := by
  by_cases hx : 0 < xs.length
  · obtain ⟨g, cap, rfl, hB, hgs, hn, hm, hc, hf⟩ := h1.some_ hx
    obtain ⟨g', cap', rfl, hB', hgs', hn', hm', hc', hf'⟩ := h2.some_ hx
    unfold maxLen at hm
    clear h1 h2 hf hf' hB hB' hgs hgs' hm'
    have HC := Lib.hid hc
    have HC' := Lib.hid hc'
    clear hc hc'
    go_enter Try.func29, Try.ntmps29
    go_wp2
    go_loopw [13] (fun i wr => ∃ k n : Nat, k ≤ xs.length ∧ i = .int .i64 k ∧ wr = w.drewN n) (fun i _ => xs.length - (intOf i).toNat)
    case atStart => exact ⟨0, 0, Nat.zero_le _, rfl, rfl⟩
    case round =>
      obtain ⟨k, n, hk, rfl, rfl⟩ := hrel
      by_cases hlt : k < xs.length
      · have c1 := HC.out k hlt
        have c2 := HC'.out k hlt
        have hlt' : (k : Int) < (xs.length : Int) := by omega
        go_wp2_with fail
        go_quiet (fail)
        go_wp2
        exact ⟨⟨k + 1, n + nq, by omega, by go_num, by simp⟩, by simp only [intOf]; omega⟩
      · obtain rfl : k = xs.length := by omega
        go_wp2
        go_ret
        exact ⟨rfl, n, rfl⟩
  · obtain rfl : xs = [] := by cases xs <;> simp_all
    obtain ⟨a, c, rfl⟩ := h1.empty
    obtain ⟨a', c', rfl⟩ := h2.empty
    go_enter Try.func29, Try.ntmps29
    go_wp2
    go_loopw [13] (fun i wr => i = .int .i64 0 ∧ wr = w) (fun i _ => 0)
    case atStart => exact ⟨rfl, rfl⟩
    case round =>
      obtain ⟨rfl, rfl⟩ := hrel
      go_wp2
      go_ret
      exact ⟨rfl, 0, rfl⟩
end Go.Proofs.Ytbnkigponkelpaa

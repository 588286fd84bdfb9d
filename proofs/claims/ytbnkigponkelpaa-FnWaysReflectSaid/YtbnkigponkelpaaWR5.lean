/- What the law FnWaysReflectOfAll asks of the height for a touch. -/
import Derived.Test.YtbnkigponkelpaaWR4
namespace Go.Proofs.Ytbnkigponkelpaa
open Go.RowKit
set_option linter.unusedVariables false
set_option linter.unusedSimpArgs false
theorem jSize_max (x y : Int) (h1 : -4611686018427387904 ≤ x - y) (h2 : x - y ≤ 4611686018427387904) (W : World) : Calls Try.prog 30 #[.int .i64 (x - y)] W fun e w' => e = .returned (.int .i64 (max (x - y) (y - x))) ∧ W = w' := by
  have h := jSize_any (x - y) h1 h2 W
  have e : (if x - y < 0 then -(x - y) else x - y) = max (x - y) (y - x) := by
    by_cases k : x - y < 0
    · rw [if_pos k]; omega
    · rw [if_neg k]; omega
  rw [e] at h
  exact h
theorem pack_H (a b x p : Int) : ∃ (H E r s : Int) (OK : Bool), (∀ W : World, Hid (Calls Try.prog 19 #[.agg #[.int .i64 a, .int .i64 b], .int .i64 x, .int .i64 p] W fun e w' => e = .returned (.tuple #[.int .i64 H, .int .i64 E, .bool OK]) ∧ Below W.heap.size W w')) ∧ (∀ W : World, Hid (Calls Try.prog 28 #[.agg #[.int .i64 a, .int .i64 b], .int .i64 x, .int .i64 p] W fun e w' => e = .returned (.tuple #[.int .i64 H, .int .i64 E, .bool OK]) ∧ Below W.heap.size W w')) ∧
    (OK = true → (∀ W : World, Hid (Calls Try.prog 18 #[.int .i64 H, .int .i64 E] W fun e w' => e = .returned (.bool true) ∧ ∃ n, w' = W.drewN n)) ∧ 1 ≤ H ∧ H ≤ 2000000 ∧ (1 ≤ E ∧ E ≤ 2000) ∧ ((-1000 ≤ a ∧ a ≤ 1000 ∧ 1 ≤ b ∧ b ≤ 1000) ∧ -1000 ≤ x ∧ x ≤ 1000 ∧ -1000 ≤ p ∧ p ≤ 1000) ∧ (1 ≤ r ∧ r ≤ 2000 ∧ 0 ≤ s ∧ s ≤ 2000) ∧ (∀ W : World, Hid (Calls Try.prog 30 #[.int .i64 (p - a)] W fun e w' => e = .returned (.int .i64 r) ∧ W = w')) ∧ (∀ W : World, Hid (Calls Try.prog 30 #[.int .i64 (x - p)] W fun e w' => e = .returned (.int .i64 s) ∧ W = w')) ∧ H * r = b * s * E) := by
  refine ⟨_, _, max (p - a) (a - p), max (x - p) (p - x), _, fun W => Lib.hid (impl_HeightForTouch a b x p W), fun W => Lib.hid (spec_HeightForTouch a b x p W), ?_⟩
  intro hk
  have hk0 := hk
  simp only [okHT, inX, btw, Bool.and_eq_true, decide_eq_true_eq] at hk0
  obtain ⟨⟨k1, k2, k3⟩, k4, k5⟩ := hk0
  obtain ⟨⟨a1, a2⟩, b1, b2⟩ := okSp_true k1
  obtain ⟨x1, x2⟩ := within_true k2
  obtain ⟨p1, p2⟩ := within_true k3
  unfold HT
  rw [if_pos hk, if_pos hk]
  have hr : 1 ≤ max (a - p) (p - a) := by omega
  have hs1 : 1 ≤ max (p - x) (x - p) := by omega
  rw [show max (p - a) (a - p) = max (a - p) (p - a) by omega, show max (x - p) (p - x) = max (p - x) (x - p) by omega]
  have hA := fun W => jSize_max p a (by omega) (by omega) W
  have hB := fun W => jSize_max x p (by omega) (by omega) W
  rw [show max (p - a) (a - p) = max (a - p) (p - a) by omega] at hA
  rw [show max (x - p) (p - x) = max (p - x) (x - p) by omega] at hB
  have hr2 : max (a - p) (p - a) ≤ 2000 := by omega
  have hs2 : max (p - x) (x - p) ≤ 2000 := by omega
  generalize max (a - p) (p - a) = r at *
  generalize max (p - x) (x - p) = s at *
  have hn := Int.mul_le_mul (a := 1) (b := 1) (c := b) (d := s) (by omega) (by omega) (by omega) (by omega)
  obtain ⟨hn0, hn2⟩ := mul_bd2 (a := b) (b := s) (m := 1000) (k := 2000) (by omega) (by omega) (by omega) (by omega)
  obtain ⟨l1, l2, l3⟩ := ln_low (n := b * s) (r := r) hn0 (by omega) hr (by omega)
  obtain ⟨_, l4⟩ := ln_bd (n := b * s) (a := r) hn0 hr
  obtain ⟨g3, g4⟩ := ld_pos' (n := b * s) hr
  have hc := cross (x := b * s) (y := r) hn0 hr
  exact ⟨l1, by omega, by omega, ⟨g3, by omega⟩, ⟨⟨a1, a2, b1, b2⟩, x1, x2, p1, p2⟩, ⟨hr, hr2, by omega, hs2⟩, fun W => Lib.hid (hA W), fun W => Lib.hid (hB W), by rw [hc, Int.mul_comm]⟩
end Go.Proofs.Ytbnkigponkelpaa

/- What the law FnWaysReflectOfAll asks of the corner. -/
import Derived.Test.YtbnkigponkelpaaWR3
namespace Go.Proofs.Ytbnkigponkelpaa
open Go.RowKit
set_option linter.unusedVariables false
set_option linter.unusedSimpArgs false
theorem okCs2_swap {a b c d : Int} (h : okCs2 a b c d = true) : okCs2 c d a b = true := by
  simp only [okCs2, Bool.and_eq_true] at h ⊢
  exact ⟨h.2, h.1⟩
theorem ln_low {n r : Int} (hn : 0 ≤ n) (hn' : n ≤ 4000000) (hr : 1 ≤ r) (hr' : r ≤ 4000) : (∀ W : World, Hid (Calls Try.prog 18 #[.int .i64 (ln n r), .int .i64 (ld n r)] W fun e w' => e = .returned (.bool true) ∧ ∃ n, w' = W.drewN n)) ∧ 0 ≤ ln n r ∧ (ln n r = 0 ↔ n = 0) := by
  obtain ⟨h1, h2⟩ := ln_bd hn hr
  obtain ⟨h3, h4⟩ := ld_pos' (n := n) hr
  have hg := low_gcd hn hr
  have hc := cross hn hr
  refine ⟨fun W => ?_, h1, ?_⟩
  · have h := jLow_any (ln n r) (ld n r).toNat (by omega) (by omega) (by omega) (by omega) W
    rw [show (ln n r).natAbs = (ln n r).toNat by omega, hg, Int.toNat_of_nonneg (by omega)] at h
    exact Lib.hid h
  · constructor
    · intro h
      rw [h, Int.zero_mul] at hc
      rcases Int.mul_eq_zero.1 hc.symm with k | k <;> omega
    · intro h; subst h; omega
theorem pack_C (a b c d : Int) : ∃ (S Y : Int) (O P : ByteArray) (xs ys : List Int) (OK : Bool), (∀ W : World, Hid (Calls Try.prog 21 #[.agg #[.int .i64 a, .int .i64 b], .agg #[.int .i64 c, .int .i64 d]] W fun e w' => e = .returned (.tuple #[.string O, .bool OK]) ∧ Below W.heap.size W w')) ∧ (∀ W : World, Hid (Calls Try.prog 22 #[.agg #[.int .i64 a, .int .i64 b], .agg #[.int .i64 c, .int .i64 d]] W fun e w' => e = .returned (.tuple #[.string O, .bool OK]) ∧ Below W.heap.size W w')) ∧ (∀ W : World, Hid (Calls Try.prog 23 #[.agg #[.int .i64 a, .int .i64 b], .agg #[.int .i64 c, .int .i64 d]] W fun e w' => e = .returned (.tuple #[.int .i64 S, .bool OK]) ∧ Below W.heap.size W w')) ∧ (∀ W : World, Hid (Calls Try.prog 24 #[.agg #[.int .i64 a, .int .i64 b], .agg #[.int .i64 c, .int .i64 d]] W fun e w' => e = .returned (.tuple #[.int .i64 S, .bool OK]) ∧ Below W.heap.size W w')) ∧ (∀ W : World, Hid (Calls Try.prog 25 #[.agg #[.int .i64 a, .int .i64 b], .agg #[.int .i64 c, .int .i64 d]] W fun e w' => ∃ v u, e = .returned (.tuple #[v, u, .bool OK]) ∧ IRow w' W.heap.size v xs ∧ IRow w' W.heap.size u ys ∧ (v.ownBlock = none ∨ v.ownBlock ≠ u.ownBlock) ∧ Below W.heap.size W w')) ∧ (∀ W : World, Hid (Calls Try.prog 26 #[.agg #[.int .i64 a, .int .i64 b], .agg #[.int .i64 c, .int .i64 d]] W fun e w' => ∃ v u, e = .returned (.tuple #[v, u, .bool OK]) ∧ IRow w' W.heap.size v xs ∧ IRow w' W.heap.size u ys ∧ (v.ownBlock = none ∨ v.ownBlock ≠ u.ownBlock) ∧ Below W.heap.size W w')) ∧
    (OK = true → (∀ W : World, Hid (Calls Try.prog 9 #[.agg #[.int .i64 a, .int .i64 b], .agg #[.int .i64 c, .int .i64 d]] W fun e w' => e = .returned (.tuple #[.int .i64 Y, .bool true]) ∧ Below W.heap.size W w')) ∧ S = Y + 4 * a * c ∧ (∀ W : World, Hid (Calls Try.prog 21 #[.agg #[.int .i64 c, .int .i64 d], .agg #[.int .i64 a, .int .i64 b]] W fun e w' => e = .returned (.tuple #[.string P, .bool true]) ∧ Below W.heap.size W w')) ∧ ((1 ≤ a ∧ a ≤ 1000 ∧ 1 ≤ b ∧ b ≤ 1000) ∧ 1 ≤ c ∧ c ≤ 1000 ∧ 1 ≤ d ∧ d ≤ 1000) ∧ (0 ≤ Y ∧ Y ≤ 8000000) ∧ ∃ g0 g1 k0 k1 : Int, xs = [g0, g1] ∧ ys = [k0, k1] ∧ (∀ W : World, Hid (Calls Try.prog 18 #[.int .i64 g0, .int .i64 g1] W fun e w' => e = .returned (.bool true) ∧ ∃ n, w' = W.drewN n)) ∧ (∀ W : World, Hid (Calls Try.prog 18 #[.int .i64 k0, .int .i64 k1] W fun e w' => e = .returned (.bool true) ∧ ∃ n, w' = W.drewN n)) ∧ (0 ≤ g0 ∧ 0 ≤ k0) ∧ ((O = ⟨#[99]⟩ ∧ P = ⟨#[99]⟩ ∧ g0 = 0 ∧ k0 = 0 ∧ a * d = c * b) ∨ (O = ⟨#[103, 119]⟩ ∧ P = ⟨#[119, 103]⟩ ∧ ¬ g0 = 0 ∧ ¬ k0 = 0 ∧ ¬ a * d = c * b) ∨ (O = ⟨#[119, 103]⟩ ∧ P = ⟨#[103, 119]⟩ ∧ ¬ g0 = 0 ∧ ¬ k0 = 0 ∧ ¬ a * d = c * b))) := by
  refine ⟨_, sq (a - c) (b + d), _, OCv c d a b, _, _, _, fun W => Lib.hid (impl_OrderByCorner a b c d W), fun W => Lib.hid (spec_OrderByCorner a b c d W), fun W => Lib.hid (impl_SquareByCorner a b c d W), fun W => Lib.hid (spec_SquareByCorner a b c d W), fun W => Lib.hid (impl_TouchesByCorner a b c d W), fun W => Lib.hid (spec_TouchesByCorner a b c d W), ?_⟩
  intro hk
  have hs := okCs2_swap hk
  have hk0 := hk
  simp only [okCs2, Bool.and_eq_true] at hk0
  obtain ⟨⟨a1, a2⟩, b1, b2⟩ := okCs_true hk0.1
  obtain ⟨⟨c1, c2⟩, d1, d2⟩ := okCs_true hk0.2
  have hsp : okSp2 a b c d = true := by
    simp only [okSp2, okSp, within, Bool.and_eq_true, decide_eq_true_eq]
    omega
  have e1' := fun W => impl_SquareByMirror a b c d W
  have e2' := fun W => impl_OrderByCorner c d a b W
  have q1 := sq_bd (a := a - c) (m := 2000) (by omega) (by omega)
  have q2 := sq_bd (a := b + d) (m := 2000) (by omega) (by omega)
  have m1 := mul_bd (a := b) (b := c) (m := 1000) (by omega) (by omega) (by omega) (by omega)
  have m2 := mul_bd (a := a) (b := d) (m := 1000) (by omega) (by omega) (by omega) (by omega)
  rw [hsp, Z_t] at e1'
  rw [hs] at e2'
  have hp0 : 0 ≤ tbP a b c d := by unfold tbP; omega
  have hp1 : tbP a b c d ≤ 4000000 := by unfold tbP; omega
  have hpz : tbP a b c d = 0 ↔ a * d = c * b := by
    unfold tbP
    have : c * b = b * c := Int.mul_comm _ _
    omega
  obtain ⟨l1, l2, l3⟩ := ln_low (n := tbP a b c d) (r := b + d) hp0 hp1 (by omega) (by omega)
  obtain ⟨k1, k2, k3⟩ := ln_low (n := tbP a b c d) (r := a + c) hp0 hp1 (by omega) (by omega)
  rw [hk, Z_t]
  refine ⟨fun W => Lib.hid (e1' W), by unfold sq; grind, fun W => Lib.hid (e2' W), ⟨⟨a1, a2, b1, b2⟩, c1, c2, d1, d2⟩, ⟨by unfold sq; omega, by unfold sq; omega⟩, _, _, _, _, if_pos hk, if_pos hk, l1, k1, ⟨l2, k2⟩, ?_⟩
  unfold OCv
  rw [if_pos hk, if_pos hs, l3, k3, hpz]
  have x1 : d * a = a * d := Int.mul_comm _ _
  have x2 : c * b = b * c := Int.mul_comm _ _
  rw [x1, x2]
  rcases Int.lt_trichotomy (b * c) (a * d) with h | h | h
  · refine .inr (.inl ⟨by rw [if_pos h], by rw [if_neg (by omega), if_pos h], by omega, by omega, by omega⟩)
  · refine .inl ⟨by rw [if_neg (by omega), if_neg (by omega)], by rw [if_neg (by omega), if_neg (by omega)], by omega, by omega, by omega⟩
  · refine .inr (.inr ⟨by rw [if_neg (by omega), if_pos h], by rw [if_pos h], by omega, by omega, by omega⟩)
end Go.Proofs.Ytbnkigponkelpaa

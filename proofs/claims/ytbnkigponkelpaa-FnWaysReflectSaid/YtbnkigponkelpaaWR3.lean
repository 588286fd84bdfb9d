/- What the law FnWaysReflectOfAll asks of the calls. -/
import Derived.Test.YtbnkigponkelpaaWR2
import Derived.Test.YtbnkigponkelpaaLW3
namespace Go.Proofs.Ytbnkigponkelpaa
open Go.RowKit
set_option linter.unusedVariables false
set_option linter.unusedSimpArgs false
theorem okSp2_swap {a b c d : Int} (h : okSp2 a b c d = true) : okSp2 c d a b = true := by
  simp only [okSp2, Bool.and_eq_true] at h ⊢
  exact ⟨h.2, h.1⟩
theorem okSp2_turn {a b c d : Int} (h : okSp2 a b c d = true) : okSp2 (-a) b (-c) d = true := by
  simp only [okSp2, okSp, within, Bool.and_eq_true, decide_eq_true_eq] at h ⊢
  omega
/-- a whole touch tells the height back -/
theorem height_back {a b c d N : Int} (hb1 : 1 ≤ b) (hb2 : b ≤ 1000) (ha1 : -1000 ≤ a) (ha2 : a ≤ 1000) (hc1 : -1000 ≤ c) (hc2 : c ≤ 1000) (hd : 1 ≤ d) (hne : ¬ a = c) (e : (N - a) * d = (c - N) * b) : okHT a b c N = true ∧ HT ln a b c N = d ∧ HT ld a b c N = 1 := by
  have hpos : (a < N ∧ N < c) ∨ (c < N ∧ N < a) := by
    rcases Int.lt_trichotomy (N - a) 0 with h | h | h
    · have h1 := Int.mul_pos (show 0 < -(N - a) by omega) (show 0 < d by omega)
      rcases Int.lt_or_le (c - N) 0 with k | k
      · omega
      · have := Int.mul_nonneg k (show 0 ≤ b by omega)
        rw [Int.neg_mul] at h1; omega
    · rw [h, Int.zero_mul] at e
      rcases Int.mul_eq_zero.1 e.symm with k | k <;> omega
    · have h1 := Int.mul_pos (show 0 < N - a by omega) (show 0 < d by omega)
      rcases Int.lt_or_le 0 (c - N) with k | k
      · omega
      · have := Int.mul_nonneg (show 0 ≤ -(c - N) by omega) (show 0 ≤ b by omega)
        rw [Int.neg_mul] at this; omega
  have hk : okHT a b c N = true := by
    simp only [okHT, inX, okSp, btw, within, Bool.and_eq_true, decide_eq_true_eq]
    omega
  refine ⟨hk, ?_⟩
  unfold HT
  rw [if_pos hk, if_pos hk]
  have e2 : b * max (N - c) (c - N) = d * max (a - N) (N - a) := by
    rcases hpos with h | h
    · rw [show max (N - c) (c - N) = c - N by omega, show max (a - N) (N - a) = N - a by omega, Int.mul_comm b, Int.mul_comm d]
      exact e.symm
    · rw [show max (N - c) (c - N) = N - c by omega, show max (a - N) (N - a) = a - N by omega]
      grind
  rw [e2]
  have hq : 1 ≤ max (a - N) (N - a) := by omega
  have := low_unique (a := d * max (a - N) (N - a)) (b := max (a - N) (N - a)) (c := d) (d := 1) (Int.mul_nonneg (by omega) (by omega)) hq (by omega) (by omega) (by rw [Int.mul_one])
  rw [this.1, this.2]
  constructor <;> simp [ln, ld] <;> omega
theorem pack_T (a b c d : Int) : ∃ (N D M T : Int) (OK WH KA KB : Bool), (∀ W : World, Hid (Calls Try.prog 7 #[.agg #[.int .i64 a, .int .i64 b], .agg #[.int .i64 c, .int .i64 d]] W fun e w' => e = .returned (.tuple #[.int .i64 N, .int .i64 D, .bool OK]) ∧ Below W.heap.size W w')) ∧ (∀ W : World, Hid (Calls Try.prog 8 #[.agg #[.int .i64 a, .int .i64 b], .agg #[.int .i64 c, .int .i64 d]] W fun e w' => e = .returned (.tuple #[.int .i64 N, .int .i64 D, .bool OK]) ∧ Below W.heap.size W w')) ∧ (∀ W : World, Hid (Calls Try.prog 9 #[.agg #[.int .i64 a, .int .i64 b], .agg #[.int .i64 c, .int .i64 d]] W fun e w' => e = .returned (.tuple #[.int .i64 M, .bool OK]) ∧ Below W.heap.size W w')) ∧ (∀ W : World, Hid (Calls Try.prog 10 #[.agg #[.int .i64 a, .int .i64 b], .agg #[.int .i64 c, .int .i64 d]] W fun e w' => e = .returned (.tuple #[.int .i64 M, .bool OK]) ∧ Below W.heap.size W w')) ∧ (∀ W : World, Hid (Calls Try.prog 11 #[.agg #[.int .i64 a, .int .i64 b], .agg #[.int .i64 c, .int .i64 d]] W fun e w' => e = .returned (.tuple #[.int .i64 T, .bool OK]) ∧ Below W.heap.size W w')) ∧ (∀ W : World, Hid (Calls Try.prog 12 #[.agg #[.int .i64 a, .int .i64 b], .agg #[.int .i64 c, .int .i64 d]] W fun e w' => e = .returned (.tuple #[.int .i64 T, .bool OK]) ∧ Below W.heap.size W w')) ∧ (∀ W : World, Hid (Calls Try.prog 13 #[.agg #[.int .i64 a, .int .i64 b], .agg #[.int .i64 c, .int .i64 d]] W fun e w' => e = .returned (.tuple #[.bool WH, .bool OK]) ∧ Below W.heap.size W w')) ∧ (∀ W : World, Hid (Calls Try.prog 14 #[.agg #[.int .i64 a, .int .i64 b], .agg #[.int .i64 c, .int .i64 d]] W fun e w' => e = .returned (.tuple #[.bool WH, .bool OK]) ∧ Below W.heap.size W w')) ∧ (∀ W : World, Hid (Calls Try.prog 15 #[.agg #[.int .i64 a, .int .i64 b]] W fun e w' => e = .returned (.bool KA) ∧ Below W.heap.size W w')) ∧ (∀ W : World, Hid (Calls Try.prog 16 #[.agg #[.int .i64 a, .int .i64 b]] W fun e w' => e = .returned (.bool KA) ∧ Below W.heap.size W w')) ∧ (∀ W : World, Hid (Calls Try.prog 15 #[.agg #[.int .i64 c, .int .i64 d]] W fun e w' => e = .returned (.bool KB) ∧ Below W.heap.size W w')) ∧
    OK = (KA && KB) ∧ (OK = true → (∀ W : World, Hid (Calls Try.prog 18 #[.int .i64 N, .int .i64 D] W fun e w' => e = .returned (.bool true) ∧ ∃ n, w' = W.drewN n)) ∧ WH = (D == 1) ∧ M = T + 4 * b * d ∧ Touch a b c d N D ∧ ((-1000 ≤ a ∧ a ≤ 1000 ∧ 1 ≤ b ∧ b ≤ 1000) ∧ -1000 ≤ c ∧ c ≤ 1000 ∧ 1 ≤ d ∧ d ≤ 1000) ∧ (0 ≤ T ∧ T ≤ 8000000) ∧ (∀ W : World, Hid (Calls Try.prog 7 #[.agg #[.int .i64 c, .int .i64 d], .agg #[.int .i64 a, .int .i64 b]] W fun e w' => e = .returned (.tuple #[.int .i64 N, .int .i64 D, .bool true]) ∧ Below W.heap.size W w')) ∧ (∀ W : World, Hid (Calls Try.prog 9 #[.agg #[.int .i64 c, .int .i64 d], .agg #[.int .i64 a, .int .i64 b]] W fun e w' => e = .returned (.tuple #[.int .i64 M, .bool true]) ∧ Below W.heap.size W w')) ∧ (∀ W : World, Hid (Calls Try.prog 17 #[.agg #[.int .i64 a, .int .i64 b]] W fun e w' => e = .returned (.tuple #[.agg #[.int .i64 (-a), .int .i64 b], .bool true]) ∧ Below W.heap.size W w')) ∧ (∀ W : World, Hid (Calls Try.prog 17 #[.agg #[.int .i64 c, .int .i64 d]] W fun e w' => e = .returned (.tuple #[.agg #[.int .i64 (-c), .int .i64 d], .bool true]) ∧ Below W.heap.size W w')) ∧ (∀ W : World, Hid (Calls Try.prog 7 #[.agg #[.int .i64 (-a), .int .i64 b], .agg #[.int .i64 (-c), .int .i64 d]] W fun e w' => e = .returned (.tuple #[.int .i64 (-N), .int .i64 D, .bool true]) ∧ Below W.heap.size W w')) ∧ (D = 1 → ¬ a = c → (∀ W : World, Hid (Calls Try.prog 19 #[.agg #[.int .i64 a, .int .i64 b], .int .i64 c, .int .i64 N] W fun e w' => e = .returned (.tuple #[.int .i64 d, .int .i64 1, .bool true]) ∧ Below W.heap.size W w')))) := by
  refine ⟨_, _, _, _, _, _, _, _, fun W => Lib.hid (impl_TouchOf a b c d W), fun W => Lib.hid (spec_TouchOf a b c d W), fun W => Lib.hid (impl_SquareByMirror a b c d W), fun W => Lib.hid (spec_SquareByMirror a b c d W), fun W => Lib.hid (impl_SquareStraight a b c d W), fun W => Lib.hid (spec_SquareStraight a b c d W), fun W => Lib.hid (impl_IsWholeTouch a b c d W), fun W => Lib.hid (spec_IsWholeTouch a b c d W), fun W => Lib.hid (impl_IsSpot a b W), fun W => Lib.hid (spec_IsSpot a b W), fun W => Lib.hid (impl_IsSpot c d W), rfl, ?_⟩
  intro hk
  have hT := touches hk
  have hs := okSp2_swap hk
  have ht := okSp2_turn hk
  have hk0 := hk
  simp only [okSp2, Bool.and_eq_true] at hk0
  obtain ⟨⟨a1, a2⟩, b1, b2⟩ := okSp_true hk0.1
  obtain ⟨⟨c1, c2⟩, d1, d2⟩ := okSp_true hk0.2
  have c1' := fun W => impl_TouchOf c d a b W
  have c2' := fun W => impl_SquareByMirror c d a b W
  have c3' := fun W => impl_TurnSpot a b W
  have c4' := fun W => impl_TurnSpot c d W
  have c5' := fun W => impl_TouchOf (-a) b (-c) d W
  have c6' := fun p W => impl_HeightForTouch a b c p W
  have hm := sq_touch a b c d
  have hsw : sq (c - a) (d + b) = sq (a - c) (b + d) := by unfold sq; grind
  have q1 := sq_bd (a := a - c) (m := 2000) (by omega) (by omega)
  have q2 := sq_bd (a := b - d) (m := 2000) (by omega) (by omega)
  rw [tN_swap, Int.add_comm d b] at c1'
  rw [tN_turn, (lnI_neg _ _ (show 1 ≤ b + d by omega)).1, (lnI_neg _ _ (show 1 ≤ b + d by omega)).2] at c5'
  simp only [hs, Z_t, hsw] at c1' c2'
  simp only [hk0.1, Z_t] at c3'
  simp only [hk0.2, Z_t] at c4'
  simp only [ht, Z_t] at c5'
  simp only [hk, Z_t, Bool.true_and]
  obtain ⟨g1, g2, g3, g4, g5, g6⟩ := hT
  generalize lnI (tN a c b (b + d)) (b + d) = N at *
  generalize ldI (tN a c b (b + d)) (b + d) = D at *
  refine ⟨fun W => ?_, by first | rfl | trivial, hm, ⟨g1, g2, g3, g4, g5, g6⟩, ⟨⟨a1, a2, b1, b2⟩, c1, c2, d1, d2⟩, ⟨by unfold sq; omega, by unfold sq; omega⟩, fun W => Lib.hid (c1' W), fun W => Lib.hid (c2' W), fun W => Lib.hid (c3' W), fun W => Lib.hid (c4' W), fun W => Lib.hid (c5' W), fun hD hne W => ?_⟩
  · have h := jLow_any N D.toNat (by omega) (by omega) (by omega) (by omega) W
    rw [g5, Int.toNat_of_nonneg (by omega)] at h
    exact Lib.hid h
  · subst hD
    obtain ⟨h1, h2, h3⟩ := height_back b1 b2 a1 a2 c1 c2 d1 hne (N := N) (by simpa using g6)
    have h := c6' N W
    rw [h1, h2, h3] at h
    exact Lib.hid h
end Go.Proofs.Ytbnkigponkelpaa

/- What the law FnWalkersMeet asks of the calls. -/
import Derived.Test.YtfnamahdofigaaaWM3
namespace Go.Proofs.Ytfnamahdofigaaa
open Go.RowKit
set_option linter.unusedVariables false
set_option linter.unusedSimpArgs false
theorem Z_t (n : Int) : Z true n = n := rfl
theorem pack_A (l h p s j q t : Int) : ∃ (r1 r2 r3 r4 v1 v2 : Int) (OK ON KA KB : Bool), (∀ W : World, Hid (Calls Try.prog 7 #[.int .i64 l, .agg #[.int .i64 h, .int .i64 p, .int .i64 s], .agg #[.int .i64 j, .int .i64 q, .int .i64 t]] W fun e w' => e = .returned (.tuple #[.int .i64 r1, .int .i64 r2, .int .i64 r3, .int .i64 r4, .bool OK]) ∧ Below W.heap.size W w')) ∧ (∀ W : World, Hid (Calls Try.prog 8 #[.int .i64 l, .agg #[.int .i64 h, .int .i64 p, .int .i64 s], .agg #[.int .i64 j, .int .i64 q, .int .i64 t]] W fun e w' => e = .returned (.tuple #[.int .i64 r1, .int .i64 r2, .int .i64 r3, .int .i64 r4, .bool OK]) ∧ Below W.heap.size W w')) ∧ (∀ W : World, Hid (Calls Try.prog 9 #[.int .i64 l, .agg #[.int .i64 h, .int .i64 p, .int .i64 s], .agg #[.int .i64 j, .int .i64 q, .int .i64 t]] W fun e w' => e = .returned (.tuple #[.int .i64 v1, .int .i64 v2, .bool ON]) ∧ Below W.heap.size W w')) ∧ (∀ W : World, Hid (Calls Try.prog 10 #[.int .i64 l, .agg #[.int .i64 h, .int .i64 p, .int .i64 s], .agg #[.int .i64 j, .int .i64 q, .int .i64 t]] W fun e w' => e = .returned (.tuple #[.int .i64 v1, .int .i64 v2, .bool ON]) ∧ Below W.heap.size W w')) ∧ (∀ W : World, Hid (Calls Try.prog 12 #[.int .i64 l, .agg #[.int .i64 h, .int .i64 p, .int .i64 s]] W fun e w' => e = .returned (.bool KA) ∧ Below W.heap.size W w')) ∧ (∀ W : World, Hid (Calls Try.prog 12 #[.int .i64 l, .agg #[.int .i64 j, .int .i64 q, .int .i64 t]] W fun e w' => e = .returned (.bool KB) ∧ Below W.heap.size W w')) ∧
    (OK = true → Hid (Meet l h p s j q t r1 r2 r3 r4) ∧ (2 ≤ l ∧ l ≤ 200 ∧ 1 ≤ h ∧ h < l ∧ 1 ≤ j ∧ j < l) ∧ (0 ≤ p ∧ p ≤ 500 ∧ 0 ≤ q ∧ q ≤ 500) ∧ (-50 ≤ s ∧ s ≤ 50 ∧ -50 ≤ t ∧ t ≤ 50) ∧ ∀ W : World, Hid (Calls Try.prog 7 #[.int .i64 l, .agg #[.int .i64 j, .int .i64 q, .int .i64 t], .agg #[.int .i64 h, .int .i64 p, .int .i64 s]] W fun e w' => e = .returned (.tuple #[.int .i64 r1, .int .i64 r2, .int .i64 r3, .int .i64 r4, .bool true]) ∧ Below W.heap.size W w')) ∧ (ON = true → Hid (Meet1 p s q t v1 v2) ∧ (0 ≤ p ∧ p ≤ 500 ∧ 0 ≤ q ∧ q ≤ 500) ∧ (-50 ≤ s ∧ s ≤ 50 ∧ -50 ≤ t ∧ t ≤ 50)) ∧ (KA = true → KB = true → h = j → ON = OK ∧ (OK = true → r1 = v1 ∧ r2 = v2)) := by
  refine ⟨_, _, _, _, _, _, _, _, _, _, fun W => Lib.hid (impl_TipsMeet l h p s j q t W), fun W => Lib.hid (spec_TipsMeet l h p s j q t W), fun W => Lib.hid (impl_WalkersMeet l h p s j q t W), fun W => Lib.hid (spec_WalkersMeet l h p s j q t W), fun W => Lib.hid (impl_IsWalker l h p s W), fun W => Lib.hid (impl_IsWalker l j q t W), ?_, ?_, ?_⟩
  · intro hk
    obtain ⟨hM, hk2, e1, e2, e3, e4⟩ := meets hk
    have hk0 := hk
    simp only [okMt, Bool.and_eq_true] at hk0
    obtain ⟨⟨k1, k2⟩, _⟩ := hk0
    obtain ⟨⟨l1, l2⟩, ⟨h1, h2⟩, ⟨p1, p2⟩, s1, s2⟩ := okWk_true k1
    obtain ⟨_, ⟨j1, j2⟩, ⟨q1, q2⟩, t1, t2⟩ := okWk_true k2
    simp only [hk, Z_t]
    refine ⟨Lib.hid hM, ⟨l1, l2, h1, by omega, j1, by omega⟩, ⟨p1, p2, q1, q2⟩, ⟨s1, s2, t1, t2⟩, fun W => ?_⟩
    have h := impl_TipsMeet l j q t h p s W
    simp only [hk2, Z_t, e1, e2, e3, e4] at h
    exact Lib.hid h
  · intro hk
    have hk0 := hk
    simp only [okMt, Bool.and_eq_true] at hk0
    obtain ⟨⟨k1, k2⟩, _⟩ := hk0
    obtain ⟨⟨l1, l2⟩, ⟨h1, h2⟩, ⟨p1, p2⟩, s1, s2⟩ := okWk_true k1
    obtain ⟨_, ⟨j1, j2⟩, ⟨q1, q2⟩, t1, t2⟩ := okWk_true k2
    simp only [hk, Z_t]
    exact ⟨Lib.hid (meets1 p1 p2 q1 q2 s1 s2 t1 t2 hk), ⟨p1, p2, q1, q2⟩, s1, s2, t1, t2⟩
  · intro k1 k2 e
    subst e
    obtain ⟨⟨l1, l2⟩, ⟨h1, h2⟩, _⟩ := okWk_true k1
    obtain ⟨e1, e2⟩ := same_high (K := okWk l h p s && okWk l h q t) (l := l) (h := h) (p := p) (s := s) (q := q) (t := t) (by omega)
    refine ⟨e1.symm, fun hk => ?_⟩
    have hk1 := hk
    rw [e1] at hk1
    have hk2 := hk1
    simp only [okMt, Bool.and_eq_true] at hk2
    obtain ⟨e3, e4⟩ := e2 hk2.2.1
    rw [hk, hk1, Z_t, Z_t, Z_t, Z_t]
    exact ⟨e3, e4⟩
theorem pack_B (hi m ch cp cs dh dp ds : Int) : ∃ (P Q : Int) (IS TH : Bool), (∀ W : World, Hid (Calls Try.prog 14 #[.int .i64 hi, .agg #[.int .i64 ch, .int .i64 cp, .int .i64 cs], .agg #[.int .i64 dh, .int .i64 dp, .int .i64 ds], .int .i64 m] W fun e w' => e = .returned (.tuple #[.bool IS, .bool TH]) ∧ Below W.heap.size W w')) ∧ (∀ W : World, Hid (Calls Try.prog 15 #[.int .i64 hi, .agg #[.int .i64 ch, .int .i64 cp, .int .i64 cs], .agg #[.int .i64 dh, .int .i64 dp, .int .i64 ds], .int .i64 m] W fun e w' => e = .returned (.tuple #[.bool IS, .bool TH]) ∧ Below W.heap.size W w')) ∧ (TH = true → (∀ W : World, Hid (Calls Try.prog 23 #[.int .i64 hi, .agg #[.int .i64 ch, .int .i64 cp, .int .i64 cs], .int .i64 m] W fun e w' => e = .returned (.tuple #[.int .i64 P, .bool true]) ∧ Below W.heap.size W w')) ∧ (∀ W : World, Hid (Calls Try.prog 23 #[.int .i64 hi, .agg #[.int .i64 dh, .int .i64 dp, .int .i64 ds], .int .i64 m] W fun e w' => e = .returned (.tuple #[.int .i64 Q, .bool true]) ∧ Below W.heap.size W w')) ∧ ((2 ≤ hi ∧ hi ≤ 200 ∧ 1 ≤ ch ∧ ch < hi ∧ 1 ≤ dh ∧ dh < hi) ∧ 0 ≤ P ∧ P ≤ 3500 ∧ 0 ≤ Q ∧ Q ≤ 3500) ∧ (IS = false → P < Q → ¬ dh * P ≤ hi * P - (hi - ch) * Q) ∧ (IS = true → P < Q ∧ dh * P ≤ hi * P - (hi - ch) * Q ∧ ¬ P = 0 ∧ ∀ W : World, Hid (Calls Try.prog 14 #[.int .i64 hi, .agg #[.int .i64 dh, .int .i64 dp, .int .i64 ds], .agg #[.int .i64 ch, .int .i64 cp, .int .i64 cs], .int .i64 m] W fun e w' => e = .returned (.tuple #[.bool false, .bool true]) ∧ Below W.heap.size W w'))) := by
  refine ⟨cp + cs * m, dp + ds * m, _, _, fun W => Lib.hid (impl_IsInShadow hi ch cp cs dh dp ds m W), fun W => Lib.hid (spec_IsInShadow hi ch cp cs dh dp ds m W), ?_⟩
  intro hk
  have hk0 := hk
  simp only [Bool.and_eq_true] at hk0
  obtain ⟨k1, k2⟩ := hk0
  obtain ⟨c1, c2, c3, c4⟩ := okAt_true k1
  obtain ⟨d1, d2, d3, d4⟩ := okAt_true k2
  obtain ⟨⟨l1, l2⟩, ⟨h1, h2⟩, _⟩ := okWk_true c1
  obtain ⟨_, ⟨j1, j2⟩, _⟩ := okWk_true d1
  have hA := fun W => impl_PlaceAt hi ch cp cs m W
  have hB := fun W => impl_PlaceAt hi dh dp ds m W
  have hC := fun W => impl_IsInShadow hi dh dp ds ch cp cs m W
  rw [k1, Z_t] at hA
  rw [k2, Z_t] at hB
  rw [k1, k2] at hC
  simp only [Bool.and_self, Bool.true_and] at hC
  rw [hk, Bool.true_and]
  refine ⟨fun W => Lib.hid (hA W), fun W => Lib.hid (hB W), ⟨⟨l1, l2, h1, by omega, j1, by omega⟩, c3, c4, d3, d4⟩, ?_, ?_⟩
  · intro hs hpq hle
    rw [shade_val, decide_eq_true hpq, decide_eq_true hle] at hs
    cases hs
  · intro hs
    have hs0 := hs
    rw [shade_val, Bool.and_eq_true, decide_eq_true_eq, decide_eq_true_eq] at hs0
    refine ⟨hs0.1, hs0.2, fun z => shade_zero (by omega) hs z, fun W => ?_⟩
    have h := hC W
    rw [shade_other hs] at h
    exact Lib.hid h
theorem pack_C (a L R x v : Int) : ∃ (s1 s2 e1 e2 n1 n2 : Int) (FI SE NI : Bool), (∀ W : World, Hid (Calls Try.prog 17 #[.int .i64 a, .int .i64 L, .int .i64 R, .int .i64 x, .int .i64 v] W fun e w' => e = .returned (.tuple #[.int .i64 s1, .int .i64 s2, .bool FI]) ∧ Below W.heap.size W w')) ∧ (∀ W : World, Hid (Calls Try.prog 18 #[.int .i64 a, .int .i64 L, .int .i64 R, .int .i64 x, .int .i64 v] W fun e w' => e = .returned (.tuple #[.int .i64 s1, .int .i64 s2, .bool FI]) ∧ Below W.heap.size W w')) ∧ (∀ W : World, Hid (Calls Try.prog 19 #[.int .i64 a, .int .i64 L, .int .i64 R, .int .i64 v] W fun e w' => e = .returned (.tuple #[.int .i64 e1, .int .i64 e2, .bool SE]) ∧ Below W.heap.size W w')) ∧ (∀ W : World, Hid (Calls Try.prog 20 #[.int .i64 a, .int .i64 L, .int .i64 R, .int .i64 v] W fun e w' => e = .returned (.tuple #[.int .i64 e1, .int .i64 e2, .bool SE]) ∧ Below W.heap.size W w')) ∧ (∀ W : World, Hid (Calls Try.prog 21 #[.int .i64 a, .int .i64 L, .int .i64 v] W fun e w' => e = .returned (.tuple #[.int .i64 n1, .int .i64 n2, .bool NI]) ∧ Below W.heap.size W w')) ∧ (∀ W : World, Hid (Calls Try.prog 22 #[.int .i64 a, .int .i64 L, .int .i64 v] W fun e w' => e = .returned (.tuple #[.int .i64 n1, .int .i64 n2, .bool NI]) ∧ Below W.heap.size W w')) ∧
    (FI = true → SE = true) ∧ (SE = true → NI = true) ∧ (FI = true → (∀ W : World, Hid (Calls Try.prog 24 #[.int .i64 s1, .int .i64 s2, .int .i64 (v * (x * (R - v) + (a - x) * (L - v))), .int .i64 ((L - v) * (R - v))] W fun e w' => e = .returned (.bool true) ∧ ∃ n, w' = W.drewN n)) ∧ ((1 ≤ a ∧ a ≤ 500) ∧ (1 ≤ v ∧ v < L ∧ v < R) ∧ (2 ≤ L ∧ L ≤ 200 ∧ 2 ≤ R ∧ R ≤ 200)) ∧ (0 ≤ x ∧ x ≤ a) ∧ (0 ≤ x * (R - v) ∧ x * (R - v) ≤ 100000) ∧ (0 ≤ (a - x) * (L - v) ∧ (a - x) * (L - v) ≤ 100000) ∧ (0 ≤ v * (x * (R - v) + (a - x) * (L - v)) ∧ v * (x * (R - v) + (a - x) * (L - v)) ≤ 40000000) ∧ 1 ≤ (L - v) * (R - v) ∧ (L - v) * (R - v) ≤ 40000) ∧ (SE = true → (∀ W : World, Hid (Calls Try.prog 11 #[.int .i64 e1, .int .i64 e2] W fun e w' => e = .returned (.bool true) ∧ ∃ n, w' = W.drewN n)) ∧ ((1 ≤ a ∧ a ≤ 500) ∧ (1 ≤ v ∧ v < L ∧ v < R) ∧ (2 ≤ L ∧ L ≤ 200 ∧ 2 ≤ R ∧ R ≤ 200)) ∧ (0 ≤ e1 ∧ e1 ≤ 100000 ∧ 1 ≤ e2 ∧ e2 ≤ 400) ∧ e1 ≤ a * e2 ∧ e1 * (R - v) = (a * e2 - e1) * (L - v)) ∧ (NI = true → (∀ W : World, Hid (Calls Try.prog 24 #[.int .i64 n1, .int .i64 n2, .int .i64 (v * a), .int .i64 (L - v)] W fun e w' => e = .returned (.bool true) ∧ ∃ n, w' = W.drewN n)) ∧ ((1 ≤ a ∧ a ≤ 500) ∧ (1 ≤ v ∧ v < L) ∧ (2 ≤ L ∧ L ≤ 200)) ∧ (FI = true → L = R → s1 = n1 ∧ s2 = n2)) := by
  refine ⟨_, _, _, _, _, _, _, _, _, fun W => Lib.hid (impl_SumOfShadows a L R x v W), fun W => Lib.hid (spec_SumOfShadows a L R x v W), fun W => Lib.hid (impl_EqualPlace a L R v W), fun W => Lib.hid (spec_EqualPlace a L R v W), fun W => Lib.hid (impl_ConstantSum a L v W), fun W => Lib.hid (spec_ConstantSum a L v W), ?_, ?_, ?_, ?_, ?_⟩
  · intro hk
    rw [Bool.and_eq_true] at hk
    exact hk.1
  · intro hk
    obtain ⟨⟨a1, a2⟩, ⟨l1, l2⟩, ⟨r1, r2⟩, h1, h2, h3⟩ := okTw_true hk
    simp only [okTw, okM, within, Bool.and_eq_true, decide_eq_true_eq]
    omega
  · intro hk
    have hk0 := hk
    rw [Bool.and_eq_true] at hk0
    obtain ⟨x0, x1⟩ := within_true hk0.2
    obtain ⟨⟨a1, a2⟩, ⟨l1, l2⟩, ⟨r1, r2⟩, h1, h2, h3⟩ := okTw_true hk0.1
    obtain ⟨f1, f2, f3, f4, f5⟩ := sum_bd hk0.1 x0 x1
    obtain ⟨n1, n2⟩ := ln_bd (n := v * (x * (R - v) + (a - x) * (L - v))) (a := (L - v) * (R - v)) f3.1 f4
    obtain ⟨_, n4⟩ := ld_bd (n := v * (x * (R - v) + (a - x) * (L - v))) (a := (L - v) * (R - v)) f3.1 f4
    have n5 := ld_pos (n := v * (x * (R - v) + (a - x) * (L - v))) (a := (L - v) * (R - v)) f4
    have n6 := low_gcd (x := v * (x * (R - v) + (a - x) * (L - v))) (y := (L - v) * (R - v)) f3.1 f4
    have hc := cross (x := v * (x * (R - v) + (a - x) * (L - v))) (y := (L - v) * (R - v)) f3.1 f4
    rw [hk, Z_t, Z_t]
    obtain ⟨b0, b1⟩ := mul_bd2 (a := ln (v * (x * (R - v) + (a - x) * (L - v))) ((L - v) * (R - v))) (b := (L - v) * (R - v)) (m := 40000000) (k := 40000) n1 (by omega) (by omega) f5
    exact ⟨fun W => Lib.hid (yIs_any n1 (by omega) n5 (by omega) n6 b0 (by omega) (by rw [hc, Int.mul_comm]) W), ⟨⟨a1, a2⟩, ⟨h1, h2, h3⟩, l1, l2, r1, r2⟩, ⟨x0, x1⟩, f1, f2, f3, f4, f5⟩
  · intro hk
    obtain ⟨⟨a1, a2⟩, ⟨l1, l2⟩, ⟨r1, r2⟩, h1, h2, h3⟩ := okTw_true hk
    obtain ⟨⟨g1, g2⟩, ⟨g3, g4⟩, g5, g6, g7⟩ := equal_place (a := a) (l := L) (r := R) (h := v) a1 a2 (by omega) (by omega) (by omega) (by omega)
    rw [hk, Z_t, Z_t]
    exact ⟨fun W => Lib.hid (yLow_int g1 (by omega) g3 (by omega) g5 W), ⟨⟨a1, a2⟩, ⟨h1, h2, h3⟩, l1, l2, r1, r2⟩, ⟨g1, g2, g3, g4⟩, g6, g7⟩
  · intro hk
    have hk0 := hk
    rw [Bool.and_eq_true] at hk0
    obtain ⟨⟨a1, a2⟩, ⟨l1, l2⟩, _, h1, h2, _⟩ := okTw_true hk0.1
    obtain ⟨c1, c2⟩ := const_low (a := a) (l := L) (h := v) a1 h1 (by omega)
    obtain ⟨b0, b1⟩ := mul_bd2 (a := v) (b := a) (m := 200) (k := 500) (by omega) (by omega) (by omega) (by omega)
    obtain ⟨n1, n2⟩ := ln_bd (n := v * a) (a := L - v) b0 (by omega)
    obtain ⟨_, n4⟩ := ld_bd (n := v * a) (a := L - v) b0 (by omega)
    have n5 := ld_pos (n := v * a) (a := L - v) (by omega)
    have n6 := low_gcd (x := v * a) (y := L - v) b0 (by omega)
    have hc := cross (x := v * a) (y := L - v) b0 (by omega)
    obtain ⟨b2, b3⟩ := mul_bd2 (a := ln (v * a) (L - v)) (b := L - v) (m := 100000) (k := 200) n1 (by omega) (by omega) (by omega)
    refine ⟨fun W => ?_, ⟨⟨a1, a2⟩, ⟨h1, h2⟩, l1, l2⟩, ?_⟩
    · rw [hk, Z_t, Z_t, c1, c2]
      exact Lib.hid (yIs_any n1 (by omega) n5 (by omega) n6 b2 (by omega) (by rw [hc, Int.mul_comm]) W)
    · intro hf e
      subst e
      rw [hk, hf, Z_t, Z_t, Z_t, Z_t, sum_const]
      exact ⟨rfl, rfl⟩
end Go.Proofs.Ytfnamahdofigaaa

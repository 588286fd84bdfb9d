/- Fractions in lowest terms that are one; meetings told from either side; yLow, yIs. -/
import Derived.Test.YtfnamahdofigaaaWK5
import Derived.Test.YtfnamahdofigaaaWK6
namespace Go.Proofs.Ytfnamahdofigaaa
open Go.RowKit
set_option linter.unusedVariables false
set_option linter.unusedSimpArgs false
theorem low_gcd {x y : Int} (hx : 0 ≤ x) (hy : 1 ≤ y) : Nat.gcd (ln x y).toNat (ld x y).toNat = 1 := by
  obtain ⟨m, rfl⟩ := Int.eq_ofNat_of_zero_le hx
  obtain ⟨n, rfl⟩ := Int.eq_ofNat_of_zero_le (show 0 ≤ y by omega)
  rw [ln_nat, ld_nat, Int.toNat_natCast, Int.toNat_natCast]
  exact Nat.gcd_div_gcd_div_gcd_of_pos_right (by omega)
theorem low_unique {a b c d : Int} (ha : 0 ≤ a) (hb : 1 ≤ b) (hc : 0 ≤ c) (hd : 1 ≤ d) (e : a * d = c * b) : ln a b = ln c d ∧ ld a b = ld c d := by
  obtain ⟨p1, p2⟩ := low_mul hd ha hb
  obtain ⟨q1, q2⟩ := low_mul hb hc hd
  rw [Int.mul_comm d a, e, Int.mul_comm d b, Int.mul_comm c b] at p1 p2
  exact ⟨p1.symm.trans q1, p2.symm.trans q2⟩
theorem eqM_swap {m g : Int} (h : eqOk m g = true) : eqM (-m) (-g) = eqM m g := by
  obtain ⟨a, _⟩ := eqOk_true h
  unfold eqG at a
  unfold eqM
  by_cases n : g < 0
  · rw [if_pos n, if_neg (by omega)]
  · rw [if_neg n] at a ⊢
    rw [if_pos (by omega), Int.neg_neg]
theorem eqG_swap (g : Int) : eqG (-g) = eqG g := by
  unfold eqG
  by_cases n : g < 0
  · rw [if_pos n, if_neg (by omega)]
  · by_cases z : g = 0
    · subst z; rfl
    · rw [if_neg n, if_pos (by omega), Int.neg_neg]
theorem eqOk_swap {m g : Int} (h : eqOk m g = true) : eqOk (-m) (-g) = true := by
  have e := eqM_swap h
  unfold eqOk at *
  rw [e, eqG_swap]
  exact h
structure Meet (l h p s j q t N D X Y : Int) : Prop where
  d1 : 1 ≤ D
  d2 : D ≤ 100000
  n1 : 0 ≤ N
  n2 : N ≤ 100000
  x1 : 0 ≤ X
  x2 : X ≤ 100000000000
  y1 : 1 ≤ Y
  y2 : Y ≤ 20000000
  g1 : Nat.gcd N.toNat D.toNat = 1
  g2 : Nat.gcd X.toNat Y.toNat = 1
  a1 : 0 ≤ p * D + s * N
  a2 : p * D + s * N ≤ 60000000
  b1 : 0 ≤ q * D + t * N
  b2 : q * D + t * N ≤ 60000000
  e1 : (p * D + s * N) * l * Y = X * D * (l - h)
  e2 : (q * D + t * N) * l * Y = X * D * (l - j)
theorem meets {l h p s j q t : Int} (hk : okMt (okWk l h p s && okWk l j q t) (q * (l - h) - p * (l - j)) (s * (l - j) - t * (l - h)) p s = true) : Meet l h p s j q t (ln (eqM (q * (l - h) - p * (l - j)) (s * (l - j) - t * (l - h))) (eqG (s * (l - j) - t * (l - h)))) (ld (eqM (q * (l - h) - p * (l - j)) (s * (l - j) - t * (l - h))) (eqG (s * (l - j) - t * (l - h)))) (ln ((p * ld (eqM (q * (l - h) - p * (l - j)) (s * (l - j) - t * (l - h))) (eqG (s * (l - j) - t * (l - h))) + s * ln (eqM (q * (l - h) - p * (l - j)) (s * (l - j) - t * (l - h))) (eqG (s * (l - j) - t * (l - h)))) * l) (ld (eqM (q * (l - h) - p * (l - j)) (s * (l - j) - t * (l - h))) (eqG (s * (l - j) - t * (l - h))) * (l - h))) (ld ((p * ld (eqM (q * (l - h) - p * (l - j)) (s * (l - j) - t * (l - h))) (eqG (s * (l - j) - t * (l - h))) + s * ln (eqM (q * (l - h) - p * (l - j)) (s * (l - j) - t * (l - h))) (eqG (s * (l - j) - t * (l - h)))) * l) (ld (eqM (q * (l - h) - p * (l - j)) (s * (l - j) - t * (l - h))) (eqG (s * (l - j) - t * (l - h))) * (l - h))) ∧
    okMt (okWk l j q t && okWk l h p s) (p * (l - j) - q * (l - h)) (t * (l - h) - s * (l - j)) q t = true ∧
    ln (eqM (p * (l - j) - q * (l - h)) (t * (l - h) - s * (l - j))) (eqG (t * (l - h) - s * (l - j))) = ln (eqM (q * (l - h) - p * (l - j)) (s * (l - j) - t * (l - h))) (eqG (s * (l - j) - t * (l - h))) ∧
    ld (eqM (p * (l - j) - q * (l - h)) (t * (l - h) - s * (l - j))) (eqG (t * (l - h) - s * (l - j))) = ld (eqM (q * (l - h) - p * (l - j)) (s * (l - j) - t * (l - h))) (eqG (s * (l - j) - t * (l - h))) ∧
    ln ((q * ld (eqM (q * (l - h) - p * (l - j)) (s * (l - j) - t * (l - h))) (eqG (s * (l - j) - t * (l - h))) + t * ln (eqM (q * (l - h) - p * (l - j)) (s * (l - j) - t * (l - h))) (eqG (s * (l - j) - t * (l - h)))) * l) (ld (eqM (q * (l - h) - p * (l - j)) (s * (l - j) - t * (l - h))) (eqG (s * (l - j) - t * (l - h))) * (l - j)) = ln ((p * ld (eqM (q * (l - h) - p * (l - j)) (s * (l - j) - t * (l - h))) (eqG (s * (l - j) - t * (l - h))) + s * ln (eqM (q * (l - h) - p * (l - j)) (s * (l - j) - t * (l - h))) (eqG (s * (l - j) - t * (l - h)))) * l) (ld (eqM (q * (l - h) - p * (l - j)) (s * (l - j) - t * (l - h))) (eqG (s * (l - j) - t * (l - h))) * (l - h)) ∧
    ld ((q * ld (eqM (q * (l - h) - p * (l - j)) (s * (l - j) - t * (l - h))) (eqG (s * (l - j) - t * (l - h))) + t * ln (eqM (q * (l - h) - p * (l - j)) (s * (l - j) - t * (l - h))) (eqG (s * (l - j) - t * (l - h)))) * l) (ld (eqM (q * (l - h) - p * (l - j)) (s * (l - j) - t * (l - h))) (eqG (s * (l - j) - t * (l - h))) * (l - j)) = ld ((p * ld (eqM (q * (l - h) - p * (l - j)) (s * (l - j) - t * (l - h))) (eqG (s * (l - j) - t * (l - h))) + s * ln (eqM (q * (l - h) - p * (l - j)) (s * (l - j) - t * (l - h))) (eqG (s * (l - j) - t * (l - h)))) * l) (ld (eqM (q * (l - h) - p * (l - j)) (s * (l - j) - t * (l - h))) (eqG (s * (l - j) - t * (l - h))) * (l - h)) := by
  have hk0 := hk
  simp only [okMt, Bool.and_eq_true, decide_eq_true_eq] at hk0
  obtain ⟨⟨k1, k2⟩, k3, k4⟩ := hk0
  obtain ⟨⟨l1, l2⟩, ⟨h1, h2⟩, ⟨p1, p2⟩, s1, s2⟩ := okWk_true k1
  obtain ⟨_, ⟨j1, j2⟩, ⟨q1, q2⟩, t1, t2⟩ := okWk_true k2
  obtain ⟨f1, f2⟩ := mul_bd2 (a := q) (b := l - h) (m := 500) (k := 200) (by omega) (by omega) (by omega) (by omega)
  obtain ⟨f3, f4⟩ := mul_bd2 (a := p) (b := l - j) (m := 500) (k := 200) (by omega) (by omega) (by omega) (by omega)
  obtain ⟨f5, f6⟩ := mul_abs (a := s) (b := l - j) (m := 50) (k := 200) (by omega) (by omega) (by omega) (by omega)
  obtain ⟨f7, f8⟩ := mul_abs (a := t) (b := l - h) (m := 50) (k := 200) (by omega) (by omega) (by omega) (by omega)
  have hx := cross_signed k3
  have hs := meet_sign (P := l - h) (Q := l - j) (p := p) (s := s) (q := q) (t := t) (by omega) (by omega) hx
  obtain ⟨c1, c2⟩ := eqOk_true k3
  have c3 := eqG_bd (g := s * (l - j) - t * (l - h)) (k := 100000) (by omega) (by omega)
  have c4 := (eqM_bd (m := q * (l - h) - p * (l - j)) (g := s * (l - j) - t * (l - h)) (k := 100000) (by omega) (by omega)).2
  have z1 := eqM_swap k3
  have z2 := eqG_swap (s * (l - j) - t * (l - h))
  have z3 := eqOk_swap k3
  rw [show -(q * (l - h) - p * (l - j)) = p * (l - j) - q * (l - h) by omega, show -(s * (l - j) - t * (l - h)) = t * (l - h) - s * (l - j) by omega] at z1 z3
  rw [show -(s * (l - j) - t * (l - h)) = t * (l - h) - s * (l - j) by omega] at z2
  obtain ⟨n1, n2⟩ := ln_bd (n := eqM (q * (l - h) - p * (l - j)) (s * (l - j) - t * (l - h))) (a := eqG (s * (l - j) - t * (l - h))) c2 c1
  obtain ⟨_, n4⟩ := ld_bd (n := eqM (q * (l - h) - p * (l - j)) (s * (l - j) - t * (l - h))) (a := eqG (s * (l - j) - t * (l - h))) c2 c1
  have n5 := ld_pos (n := eqM (q * (l - h) - p * (l - j)) (s * (l - j) - t * (l - h))) (a := eqG (s * (l - j) - t * (l - h))) c1
  have n6 := low_gcd c2 c1
  have hY : okMt (okWk l j q t && okWk l h p s) (p * (l - j) - q * (l - h)) (t * (l - h) - s * (l - j)) q t = ((true && true) && (true && decide (0 ≤ q * ld (eqM (q * (l - h) - p * (l - j)) (s * (l - j) - t * (l - h))) (eqG (s * (l - j) - t * (l - h))) + t * ln (eqM (q * (l - h) - p * (l - j)) (s * (l - j) - t * (l - h))) (eqG (s * (l - j) - t * (l - h)))))) := by
    unfold okMt
    rw [z1, z2, z3, k1, k2]
  rw [z1, z2]
  rw [hY]
  clear hY z1 z2 z3
  generalize ln (eqM (q * (l - h) - p * (l - j)) (s * (l - j) - t * (l - h))) (eqG (s * (l - j) - t * (l - h))) = N at *
  generalize ld (eqM (q * (l - h) - p * (l - j)) (s * (l - j) - t * (l - h))) (eqG (s * (l - j) - t * (l - h))) = D at *
  obtain ⟨v1, v2⟩ := mul_bd2 (a := p) (b := D) (m := 500) (k := 100000) (by omega) (by omega) (by omega) (by omega)
  obtain ⟨v3, v4⟩ := mul_abs (a := s) (b := N) (m := 50) (k := 100000) (by omega) (by omega) (by omega) (by omega)
  obtain ⟨v5, v6⟩ := mul_bd2 (a := q) (b := D) (m := 500) (k := 100000) (by omega) (by omega) (by omega) (by omega)
  obtain ⟨v7, v8⟩ := mul_abs (a := t) (b := N) (m := 50) (k := 100000) (by omega) (by omega) (by omega) (by omega)
  have b1 := hs.1 k4
  have hPQ : (l - j) * (p * D + s * N) = (l - h) * (q * D + t * N) := by grind
  obtain ⟨r1, r2⟩ := mul_bd2 (a := D) (b := l - h) (m := 100000) (k := 200) (by omega) (by omega) (by omega) (by omega)
  obtain ⟨r3, r4⟩ := mul_bd2 (a := D) (b := l - j) (m := 100000) (k := 200) (by omega) (by omega) (by omega) (by omega)
  have r5 := Int.mul_le_mul (a := 1) (b := 1) (c := D) (d := l - h) (by omega) (by omega) (by omega) (by omega)
  have r6 := Int.mul_le_mul (a := 1) (b := 1) (c := D) (d := l - j) (by omega) (by omega) (by omega) (by omega)
  obtain ⟨u1, u2⟩ := mul_bd2 (a := p * D + s * N) (b := l) (m := 100000000) (k := 200) (by omega) (by omega) (by omega) (by omega)
  obtain ⟨u3, u4⟩ := mul_bd2 (a := q * D + t * N) (b := l) (m := 100000000) (k := 200) (by omega) (by omega) (by omega) (by omega)
  have hu := low_unique (a := (q * D + t * N) * l) (b := D * (l - j)) (c := (p * D + s * N) * l) (d := D * (l - h)) u3 (by omega) u1 (by omega) (by grind)
  have hc := cross (x := (p * D + s * N) * l) (y := D * (l - h)) u1 (by omega)
  obtain ⟨w1, w2⟩ := ln_bd (n := (p * D + s * N) * l) (a := D * (l - h)) u1 (by omega)
  obtain ⟨_, w4⟩ := ld_bd (n := (p * D + s * N) * l) (a := D * (l - h)) u1 (by omega)
  have w5 := ld_pos (n := (p * D + s * N) * l) (a := D * (l - h)) (by omega)
  have w6 := low_gcd (x := (p * D + s * N) * l) (y := D * (l - h)) u1 (by omega)
  refine ⟨?_, ?_, rfl, rfl, hu.1, hu.2⟩
  · generalize ln ((p * D + s * N) * l) (D * (l - h)) = X at *
    generalize ld ((p * D + s * N) * l) (D * (l - h)) = Y at *
    refine ⟨n5, by omega, n1, by omega, w1, by omega, w5, by omega, n6, w6, k4, by omega, b1, by omega, ?_, ?_⟩
    · grind
    · have h1 : (l - j) * ((p * D + s * N) * l * Y) = (l - j) * (X * D * (l - h)) := by grind
      have h2 : (l - h) * ((q * D + t * N) * l * Y) = (l - h) * (X * D * (l - j)) := by grind
      exact Int.eq_of_mul_eq_mul_left (by omega) h2
  · rw [decide_eq_true b1]; rfl
set_option maxHeartbeats 1000000 in
theorem yLow_any (x y : Nat) (hx : x ≤ 4611686018427387904) (hy : 1 ≤ y) (hy' : y ≤ 4611686018427387904) (w : World) :
    Calls Try.prog 11 #[.int .i64 x, .int .i64 y] w fun e w' => e = .returned (.bool (Nat.gcd x y == 1)) ∧ ∃ n, w' = w.drewN n := by
  have i0 : ¬ (x : Int) < 0 := by omega
  have i1 : ¬ (y : Int) < 1 := by omega
  go_enter Try.func11, Try.ntmps11
  go_wp2_with fail
  go_loopw [5, 6] (fun a b wr => ∃ p q n : Nat, a = .int .i64 p ∧ b = .int .i64 q ∧ p ≤ 4611686018427387904 ∧ q ≤ 4611686018427387904 ∧ Nat.gcd p q = Nat.gcd x y ∧ wr = w.drewN n) (fun _ b _ => (intOf b).toNat)
  case atStart => exact ⟨x, y, 0, rfl, rfl, by omega, by omega, rfl, rfl⟩
  case round =>
    obtain ⟨p, q, n, rfl, rfl, hp, hq, hg, rfl⟩ := hrel
    have Hg := Lib.hid hg
    clear hg
    by_cases hq0 : 1 ≤ q
    · go_wp2_with fail
      go_quiet (fail)
      go_wp2
      have hm : p % q < q := Nat.mod_lt _ (by omega)
      exact ⟨⟨q, p % q, n + nq, rfl, by simp, hq, by omega, by rw [gcd_step p q (by omega), Hg.out], by simp⟩, by simp only [intOf]; omega⟩
    · obtain rfl : q = 0 := by omega
      rw [Nat.gcd_zero_right] at Hg
      have HE := Lib.hid (show (Nat.gcd x y == 1) = ((p : Int) == 1) by
        rw [← Hg.out, Bool.eq_iff_iff, beq_iff_eq, beq_iff_eq]; omega)
      go_wp2
      go_ret
      exact ⟨by rw [HE.out]; rfl, n, rfl⟩
theorem yLow_int {x y : Int} (hx : 0 ≤ x) (hx' : x ≤ 4611686018427387904) (hy : 1 ≤ y) (hy' : y ≤ 4611686018427387904) (hg : Nat.gcd x.toNat y.toNat = 1) (w : World) :
    Calls Try.prog 11 #[.int .i64 x, .int .i64 y] w fun e w' => e = .returned (.bool true) ∧ ∃ n, w' = w.drewN n := by
  have h := yLow_any x.toNat y.toNat (by omega) (by omega) (by omega) w
  rw [hg, Int.toNat_of_nonneg hx, Int.toNat_of_nonneg (by omega)] at h
  exact h
end Go.Proofs.Ytfnamahdofigaaa

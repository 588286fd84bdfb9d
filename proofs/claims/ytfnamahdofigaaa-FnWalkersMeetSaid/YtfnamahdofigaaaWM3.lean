/- The law FnWalkersMeetOfAll: the mathematics of its second half. -/
import Derived.Test.YtfnamahdofigaaaWM1
namespace Go.Proofs.Ytfnamahdofigaaa
open Go.RowKit
set_option linter.unusedVariables false
set_option linter.unusedSimpArgs false

structure Meet1 (p s q t N D : Int) : Prop where
  d1 : 1 ≤ D
  d2 : D ≤ 100
  n1 : 0 ≤ N
  n2 : N ≤ 500
  g1 : Nat.gcd N.toNat D.toNat = 1
  a1 : 0 ≤ p * D + s * N
  e : p * D + s * N = q * D + t * N
theorem meets1 {K : Bool} {p s q t : Int} (p1 : 0 ≤ p) (p2 : p ≤ 500) (q1 : 0 ≤ q) (q2 : q ≤ 500) (s1 : -50 ≤ s) (s2 : s ≤ 50) (t1 : -50 ≤ t) (t2 : t ≤ 50) (hk : okMt K (q - p) (s - t) p s = true) :
    Meet1 p s q t (ln (eqM (q - p) (s - t)) (eqG (s - t))) (ld (eqM (q - p) (s - t)) (eqG (s - t))) := by
  simp only [okMt, Bool.and_eq_true, decide_eq_true_eq] at hk
  obtain ⟨_, k3, k4⟩ := hk
  obtain ⟨c1, c2⟩ := eqOk_true k3
  have c3 := eqG_bd (g := s - t) (k := 100) (by omega) (by omega)
  have c4 := (eqM_bd (m := q - p) (g := s - t) (k := 500) (by omega) (by omega)).2
  obtain ⟨n1, n2⟩ := ln_bd (n := eqM (q - p) (s - t)) (a := eqG (s - t)) c2 c1
  obtain ⟨_, n4⟩ := ld_bd (n := eqM (q - p) (s - t)) (a := eqG (s - t)) c2 c1
  have n5 := ld_pos (n := eqM (q - p) (s - t)) (a := eqG (s - t)) c1
  have n6 := low_gcd c2 c1
  have hx := cross (x := eqM (q - p) (s - t)) (y := eqG (s - t)) c2 c1
  refine ⟨n5, by omega, n1, by omega, n6, k4, ?_⟩
  generalize ln (eqM (q - p) (s - t)) (eqG (s - t)) = N at *
  generalize ld (eqM (q - p) (s - t)) (eqG (s - t)) = D at *
  unfold eqM eqG at hx
  split at hx <;> grind
theorem eqM_mulr {m g c : Int} (hc : 1 ≤ c) : eqM (m * c) (g * c) = eqM m g * c := by
  unfold eqM
  have e : g * c < 0 ↔ g < 0 := by
    constructor
    · intro h
      rcases Int.lt_or_le g 0 with k | k
      · exact k
      · have := Int.mul_nonneg k (show 0 ≤ c by omega); omega
    · intro h
      have := Int.mul_pos (show 0 < -g by omega) (show 0 < c by omega)
      rw [Int.neg_mul] at this
      omega
  by_cases k : g < 0
  · rw [if_pos k, if_pos (e.2 k), Int.neg_mul]
  · rw [if_neg k, if_neg (fun h => k (e.1 h))]
theorem eqG_mulr {g c : Int} (hc : 1 ≤ c) : eqG (g * c) = eqG g * c := eqM_mulr hc
theorem eqOk_mulr {m g c : Int} (hc : 1 ≤ c) : eqOk (m * c) (g * c) = eqOk m g := by
  unfold eqOk
  rw [eqM_mulr hc, eqG_mulr hc]
  have hg := eqG_nn g
  have e1 : (eqG g * c == 0) = (eqG g == 0) := by
    rw [Bool.eq_iff_iff, beq_iff_eq, beq_iff_eq]
    constructor
    · intro h
      rcases Int.mul_eq_zero.1 h with k | k
      · exact k
      · omega
    · intro h; rw [h, Int.zero_mul]
  have e2 : decide (eqM m g * c < 0) = decide (eqM m g < 0) := by
    congr 1
    apply propext
    constructor
    · intro h
      rcases Int.lt_or_le (eqM m g) 0 with k | k
      · exact k
      · have := Int.mul_nonneg k (show 0 ≤ c by omega); omega
    · intro h
      have := Int.mul_pos (show 0 < -eqM m g by omega) (show 0 < c by omega)
      rw [Int.neg_mul] at this
      omega
  rw [e1, e2]
/-- who are as high meet as their tips do -/
theorem same_high {K : Bool} {l h p s q t : Int} (hl : 1 ≤ l - h) :
    okMt K (q * (l - h) - p * (l - h)) (s * (l - h) - t * (l - h)) p s = okMt K (q - p) (s - t) p s ∧
    (eqOk (q - p) (s - t) = true → ln (eqM (q * (l - h) - p * (l - h)) (s * (l - h) - t * (l - h))) (eqG (s * (l - h) - t * (l - h))) = ln (eqM (q - p) (s - t)) (eqG (s - t)) ∧
      ld (eqM (q * (l - h) - p * (l - h)) (s * (l - h) - t * (l - h))) (eqG (s * (l - h) - t * (l - h))) = ld (eqM (q - p) (s - t)) (eqG (s - t))) := by
  rw [← Int.sub_mul, ← Int.sub_mul, eqM_mulr hl, eqG_mulr hl]
  have hf : eqOk (q - p) (s - t) = true → ln (eqM (q - p) (s - t) * (l - h)) (eqG (s - t) * (l - h)) = ln (eqM (q - p) (s - t)) (eqG (s - t)) ∧ ld (eqM (q - p) (s - t) * (l - h)) (eqG (s - t) * (l - h)) = ld (eqM (q - p) (s - t)) (eqG (s - t)) := fun e => by
    obtain ⟨c1, c2⟩ := eqOk_true e
    have d1 := Int.mul_le_mul (a := 1) (b := 1) (c := eqG (s - t)) (d := l - h) (by omega) (by omega) (by omega) (by omega)
    exact low_unique (Int.mul_nonneg c2 (by omega)) (by omega) c2 c1 (by grind)
  refine ⟨?_, hf⟩
  unfold okMt
  rw [eqOk_mulr hl, eqM_mulr hl, eqG_mulr hl]
  cases e : eqOk (q - p) (s - t)
  · simp
  · obtain ⟨h1, h2⟩ := hf e
    rw [h1, h2]
theorem shade_val (l P h Q j : Int) : hid_ l P h Q j = (decide (P < Q) && decide (j * P ≤ l * P - (l - h) * Q)) := rfl
theorem shade_zero {l P h Q j : Int} (hl : 1 ≤ l - h) (e : hid_ l P h Q j = true) (z : P = 0) : False := by
  rw [shade_val, Bool.and_eq_true, decide_eq_true_eq, decide_eq_true_eq] at e
  obtain ⟨e1, e2⟩ := e
  subst z
  have := Int.mul_pos (show 0 < l - h by omega) e1
  rw [Int.mul_zero, Int.mul_zero] at e2
  omega
theorem shade_other {l P h Q j : Int} (e : hid_ l P h Q j = true) : hid_ l Q j P h = false := by
  rw [shade_val, Bool.and_eq_true, decide_eq_true_eq, decide_eq_true_eq] at e
  rw [shade_val, decide_eq_false (by omega), Bool.false_and]
/-- where two shadows are as long -/
theorem equal_place {a l r h : Int} (a1 : 1 ≤ a) (a2 : a ≤ 500) (l1 : 1 ≤ l - h) (l2 : l - h ≤ 200) (r1 : 1 ≤ r - h) (r2 : r - h ≤ 200) :
    (0 ≤ ln (a * (l - h)) ((l - h) + (r - h)) ∧ ln (a * (l - h)) ((l - h) + (r - h)) ≤ 100000) ∧ (1 ≤ ld (a * (l - h)) ((l - h) + (r - h)) ∧ ld (a * (l - h)) ((l - h) + (r - h)) ≤ 400) ∧
    Nat.gcd (ln (a * (l - h)) ((l - h) + (r - h))).toNat (ld (a * (l - h)) ((l - h) + (r - h))).toNat = 1 ∧
    ln (a * (l - h)) ((l - h) + (r - h)) ≤ a * ld (a * (l - h)) ((l - h) + (r - h)) ∧
    ln (a * (l - h)) ((l - h) + (r - h)) * (r - h) = (a * ld (a * (l - h)) ((l - h) + (r - h)) - ln (a * (l - h)) ((l - h) + (r - h))) * (l - h) := by
  obtain ⟨m0, m1⟩ := mul_bd2 (a := a) (b := l - h) (m := 500) (k := 200) (by omega) (by omega) (by omega) (by omega)
  obtain ⟨n1, n2⟩ := ln_bd (n := a * (l - h)) (a := (l - h) + (r - h)) m0 (by omega)
  obtain ⟨_, n4⟩ := ld_bd (n := a * (l - h)) (a := (l - h) + (r - h)) m0 (by omega)
  have n5 := ld_pos (n := a * (l - h)) (a := (l - h) + (r - h)) (by omega)
  have n6 := low_gcd (x := a * (l - h)) (y := (l - h) + (r - h)) m0 (by omega)
  have hx := cross (x := a * (l - h)) (y := (l - h) + (r - h)) m0 (by omega)
  refine ⟨⟨n1, by omega⟩, ⟨n5, by omega⟩, n6, ?_, ?_⟩
  · generalize ln (a * (l - h)) ((l - h) + (r - h)) = N at *
    generalize ld (a * (l - h)) ((l - h) + (r - h)) = D at *
    generalize l - h = P at *
    generalize r - h = Q at *
    rcases Int.lt_or_le (a * D) N with g | g
    · have h1 := Int.mul_le_mul_of_nonneg_right (show a * D + 1 ≤ N by omega) (show 0 ≤ P + Q by omega)
      have h2 : (a * D + 1) * (P + Q) = D * (a * P) + a * D * Q + P + Q := by grind
      have h3 := Int.mul_nonneg (Int.mul_nonneg (show 0 ≤ a by omega) (show 0 ≤ D by omega)) (show 0 ≤ Q by omega)
      omega
    · exact g
  · grind
theorem const_low {a l h : Int} (a1 : 1 ≤ a) (h1 : 1 ≤ h) (l1 : 1 ≤ l - h) :
    ln (h * (0 * (l - h) + (a - 0) * (l - h))) ((l - h) * (l - h)) = ln (h * a) (l - h) ∧ ld (h * (0 * (l - h) + (a - 0) * (l - h))) ((l - h) * (l - h)) = ld (h * a) (l - h) := by
  have d1 := Int.mul_le_mul (a := 1) (b := 1) (c := l - h) (d := l - h) (by omega) (by omega) (by omega) (by omega)
  have hm := Int.mul_nonneg (show 0 ≤ h by omega) (show 0 ≤ a by omega)
  have e : h * (0 * (l - h) + (a - 0) * (l - h)) = h * a * (l - h) := by grind
  rw [e]
  exact low_unique (Int.mul_nonneg hm (by omega)) (by omega) hm (by omega) (by grind)
theorem sum_const {a l h x : Int} : h * (x * (l - h) + (a - x) * (l - h)) = h * (0 * (l - h) + (a - 0) * (l - h)) := by
  rw [← Int.add_mul, ← Int.add_mul]
  congr 2
  omega
set_option maxHeartbeats 1000000 in
theorem yIs_any {n d x y : Int} (n0 : 0 ≤ n) (n1 : n ≤ 4611686018427387904) (d0 : 1 ≤ d) (d1 : d ≤ 4611686018427387904) (hg : Nat.gcd n.toNat d.toNat = 1) (b0 : 0 ≤ n * y) (b1 : n * y ≤ 4611686018427387904) (e : n * y = x * d) (w : World) :
    Calls Try.prog 24 #[.int .i64 n, .int .i64 d, .int .i64 x, .int .i64 y] w fun e w' => e = .returned (.bool true) ∧ ∃ m, w' = w.drewN m := by
  have HY := fun W => Lib.hid (yLow_int n0 n1 d0 d1 hg W)
  have b2 : 0 ≤ x * d := by omega
  have b3 : x * d ≤ 4611686018427387904 := by omega
  have E := Lib.hid e
  have hq : (n * y == x * d) = true := by rw [e, beq_self_eq_true]
  clear e
  go_enter Try.func24, Try.ntmps24
  go_wp2_with fail
  refine ((HY _).out).mono ?_
  rintro e w' ⟨rfl, m, rfl⟩
  go_wp2
  go_ret
  exact ⟨by simp [hq], m, rfl⟩
end Go.Proofs.Ytfnamahdofigaaa

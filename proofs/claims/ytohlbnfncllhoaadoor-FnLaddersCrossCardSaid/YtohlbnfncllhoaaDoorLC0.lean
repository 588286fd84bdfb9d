/- What the law FnLaddersCrossOfAll asks: numbers. -/
import Derived.Test.YtohlbnfncllhoaaDoorC6
import Derived.Test.YtohlbnfncllhoaaDoorC4
namespace Go.Proofs.YtohlbnfncllhoaaDoor
open Go.RowKit
set_option linter.unusedVariables false
set_option linter.unusedSimpArgs false
theorem Z_t (n : Int) : Z true n = n := rfl
set_option maxHeartbeats 2000000 in
theorem jLow_any (x : Int) (y : Nat) (h1 : -4611686018427387904 ≤ x) (h2 : x ≤ 4611686018427387904) (hy : 1 ≤ y) (hy' : y ≤ 4611686018427387904) (w : World) :
    Calls Tryd.prog 25 #[.int .i64 x, .int .i64 y] w fun e w' => e = .returned (.bool (Nat.gcd x.natAbs y == 1)) ∧ ∃ n, w' = w.drewN n := by
  have i1 : ¬ (y : Int) < 1 := by omega
  go_enter Tryd.func25, Tryd.ntmps25
  by_cases hx : x < 0
  · obtain ⟨k, hk⟩ := Int.eq_ofNat_of_zero_le (show 0 ≤ -x by omega)
    have hxk : x = -(k : Int) := by omega
    have hab : x.natAbs = k := by omega
    rw [hab]
    have hneg : IntKind.i64.wrap (-x) = (k : Int) := by rw [hk]; exact IntWalk.i64_in _ ⟨by omega, by omega⟩
    clear hk hab
    go_wp2_with fail
    go_loopw [5, 6] (fun a b wr => ∃ p q n : Nat, a = .int .i64 p ∧ b = .int .i64 q ∧ p ≤ 4611686018427387904 ∧ q ≤ 4611686018427387904 ∧ Nat.gcd p q = Nat.gcd k y ∧ wr = w.drewN n) (fun _ b _ => (intOf b).toNat)
    case atStart => exact ⟨k, y, 0, rfl, rfl, by omega, by omega, rfl, rfl⟩
    case round =>
      obtain ⟨p, q, n, rfl, rfl, hp, hq, hg, rfl⟩ := hrel
      have Hg := Lib.hid hg
      clear hg
      by_cases hq0 : 1 ≤ q
      · go_wp2_with fail
        go_quiet (fail)
        go_wp2
        have hm : p % q < q := Nat.mod_lt _ (by omega)
        exact ⟨⟨q, p % q, n + nq, rfl, by simp, hq, by omega, by rw [gcd_step p q (by omega), Hg.out], by simp⟩, by simp only [intOf]; omega⟩
      · obtain rfl : q = 0 := by omega
        rw [Nat.gcd_zero_right] at Hg
        have HE := Lib.hid (show (Nat.gcd k y == 1) = ((p : Int) == 1) by
          rw [← Hg.out, Bool.eq_iff_iff, beq_iff_eq, beq_iff_eq]; omega)
        go_wp2
        go_ret
        exact ⟨by rw [HE.out]; rfl, n, rfl⟩
  · obtain ⟨k, hk⟩ := Int.eq_ofNat_of_zero_le (show 0 ≤ x by omega)
    subst hk
    rw [Int.natAbs_natCast]
    go_wp2_with fail
    go_loopw [5, 6] (fun a b wr => ∃ p q n : Nat, a = .int .i64 p ∧ b = .int .i64 q ∧ p ≤ 4611686018427387904 ∧ q ≤ 4611686018427387904 ∧ Nat.gcd p q = Nat.gcd k y ∧ wr = w.drewN n) (fun _ b _ => (intOf b).toNat)
    case atStart => exact ⟨k, y, 0, rfl, rfl, by omega, by omega, rfl, rfl⟩
    case round =>
      obtain ⟨p, q, n, rfl, rfl, hp, hq, hg, rfl⟩ := hrel
      have Hg := Lib.hid hg
      clear hg
      by_cases hq0 : 1 ≤ q
      · go_wp2_with fail
        go_quiet (fail)
        go_wp2
        have hm : p % q < q := Nat.mod_lt _ (by omega)
        exact ⟨⟨q, p % q, n + nq, rfl, by simp, hq, by omega, by rw [gcd_step p q (by omega), Hg.out], by simp⟩, by simp only [intOf]; omega⟩
      · obtain rfl : q = 0 := by omega
        rw [Nat.gcd_zero_right] at Hg
        have HE := Lib.hid (show (Nat.gcd k y == 1) = ((p : Int) == 1) by
          rw [← Hg.out, Bool.eq_iff_iff, beq_iff_eq, beq_iff_eq]; omega)
        go_wp2
        go_ret
        exact ⟨by rw [HE.out]; rfl, n, rfl⟩
theorem low_mul {l x y : Int} (hl : 1 ≤ l) (hx : 0 ≤ x) (hy : 1 ≤ y) : ln (l * x) (l * y) = ln x y ∧ ld (l * x) (l * y) = ld x y := by
  obtain ⟨a, rfl⟩ := Int.eq_ofNat_of_zero_le (show 0 ≤ l by omega)
  obtain ⟨m, rfl⟩ := Int.eq_ofNat_of_zero_le hx
  obtain ⟨n, rfl⟩ := Int.eq_ofNat_of_zero_le (show 0 ≤ y by omega)
  rw [← Int.natCast_mul, ← Int.natCast_mul, ln_nat, ln_nat, ld_nat, ld_nat, Nat.gcd_mul_left]
  constructor
  · rw [Nat.mul_div_mul_left _ _ (by omega)]
  · rw [Nat.mul_div_mul_left _ _ (by omega)]
theorem cross {x y : Int} (hx : 0 ≤ x) (hy : 1 ≤ y) : ln x y * y = ld x y * x := by
  obtain ⟨m, rfl⟩ := Int.eq_ofNat_of_zero_le hx
  obtain ⟨n, rfl⟩ := Int.eq_ofNat_of_zero_le (show 0 ≤ y by omega)
  rw [ln_nat, ld_nat, ← Int.natCast_mul, ← Int.natCast_mul]
  have h1 : Nat.gcd m n ∣ m := Nat.gcd_dvd_left _ _
  have h2 : Nat.gcd m n ∣ n := Nat.gcd_dvd_right _ _
  have hg : 0 < Nat.gcd m n := Nat.gcd_pos_of_pos_right _ (by omega)
  congr 1
  obtain ⟨u, hu⟩ := h1
  obtain ⟨v, hv⟩ := h2
  generalize Nat.gcd m n = g at *
  subst hu hv
  rw [Nat.mul_div_cancel_left _ hg, Nat.mul_div_cancel_left _ hg, ← Nat.mul_assoc, ← Nat.mul_assoc, Nat.mul_comm u, Nat.mul_comm v, Nat.mul_assoc, Nat.mul_assoc, Nat.mul_comm u v]
theorem low_gcd {x y : Int} (hx : 0 ≤ x) (hy : 1 ≤ y) : Nat.gcd (ln x y).toNat (ld x y).toNat = 1 := by
  obtain ⟨m, rfl⟩ := Int.eq_ofNat_of_zero_le hx
  obtain ⟨n, rfl⟩ := Int.eq_ofNat_of_zero_le (show 0 ≤ y by omega)
  rw [ln_nat, ld_nat, Int.toNat_natCast, Int.toNat_natCast]
  exact Nat.gcd_div_gcd_div_gcd_of_pos_right (by omega)
theorem low_unique {a b c d : Int} (ha : 0 ≤ a) (hb : 1 ≤ b) (hc : 0 ≤ c) (hd : 1 ≤ d) (e : a * d = c * b) : ln a b = ln c d ∧ ld a b = ld c d := by
  obtain ⟨p1, p2⟩ := low_mul hd ha hb
  obtain ⟨q1, q2⟩ := low_mul hb hc hd
  rw [Int.mul_comm d a, e, Int.mul_comm d b, Int.mul_comm c b] at p1 p2
  exact ⟨p1.symm.trans q1, p2.symm.trans q2⟩
theorem ld_pos' {n a : Int} (ha : 1 ≤ a) : 1 ≤ ld n a ∧ ld n a ≤ a := by
  obtain ⟨m, rfl⟩ := Int.eq_ofNat_of_zero_le (show 0 ≤ a by omega)
  unfold ld
  have hd : Nat.gcd n.toNat m ∣ m := Nat.gcd_dvd_right _ _
  have hg : 0 < Nat.gcd n.toNat m := Nat.gcd_pos_of_pos_right _ (by omega)
  have h1 : 0 < m / Nat.gcd n.toNat m := Nat.div_pos (Nat.le_of_dvd (by omega) hd) hg
  have h2 : m / Nat.gcd n.toNat m ≤ m := Nat.div_le_self _ _
  simp only [Int.toNat_natCast] at *
  omega
theorem mul_bdx {a b m k : Int} (ha : 0 ≤ a) (hb : 0 ≤ b) (ha' : a ≤ m) (hb' : b ≤ k) : 0 ≤ a * b ∧ a * b ≤ m * k :=
  ⟨Int.mul_nonneg ha hb, Int.mul_le_mul ha' hb' hb (by omega)⟩
/-- a fraction that is lowered: how large, and what it is -/
theorem low_all {n r m : Int} (hn : 0 ≤ n) (hm : n ≤ m) (hr : 1 ≤ r) : (0 ≤ ln n r ∧ ln n r ≤ m) ∧ (1 ≤ ld n r ∧ ld n r ≤ r) ∧ ln n r * r = ld n r * n ∧ Nat.gcd (ln n r).toNat (ld n r).toNat = 1 := by
  obtain ⟨x, rfl⟩ := Int.eq_ofNat_of_zero_le hn
  obtain ⟨y, rfl⟩ := Int.eq_ofNat_of_zero_le (show 0 ≤ r by omega)
  have hc := cross (x := (x : Int)) (y := y) hn hr
  have hg := low_gcd (x := (x : Int)) (y := y) hn hr
  have hd := ld_pos' (n := (x : Int)) (a := y) hr
  refine ⟨?_, hd, hc, hg⟩
  rw [ln_nat]
  have := Nat.div_le_self x (Nat.gcd x y)
  generalize x / Nat.gcd x y = t at *
  omega
/-- places of the crossing from both walls -/
theorem two_places {a b c : Int} (ha : 1 ≤ a) (hb : 1 ≤ b) (hc : 1 ≤ c) : ld (a * c) (c + b) = ld (a * b) (b + c) ∧ ln (a * c) (c + b) + ln (a * b) (b + c) = a * ld (a * b) (b + c) := by
  obtain ⟨x, rfl⟩ := Int.eq_ofNat_of_zero_le (show 0 ≤ a by omega)
  obtain ⟨y, rfl⟩ := Int.eq_ofNat_of_zero_le (show 0 ≤ b by omega)
  obtain ⟨z, rfl⟩ := Int.eq_ofNat_of_zero_le (show 0 ≤ c by omega)
  rw [Int.add_comm (z : Int) y, ← Int.natCast_mul, ← Int.natCast_mul, ← Int.natCast_add, ln_nat, ln_nat, ld_nat, ld_nat]
  have hg : Nat.gcd (x * z) (y + z) = Nat.gcd (x * y) (y + z) := by
    have h1 : x * y + x * z = x * (y + z) := by rw [Nat.mul_add]
    apply Nat.dvd_antisymm
    · refine Nat.dvd_gcd ?_ (Nat.gcd_dvd_right _ _)
      have hz := Nat.gcd_dvd_left (x * z) (y + z)
      have hs : Nat.gcd (x * z) (y + z) ∣ x * (y + z) := Nat.dvd_trans (Nat.gcd_dvd_right _ _) (Nat.dvd_mul_left _ _)
      rw [← h1] at hs
      exact (Nat.dvd_add_iff_left hz).2 hs
    · refine Nat.dvd_gcd ?_ (Nat.gcd_dvd_right _ _)
      have hz := Nat.gcd_dvd_left (x * y) (y + z)
      have hs : Nat.gcd (x * y) (y + z) ∣ x * (y + z) := Nat.dvd_trans (Nat.gcd_dvd_right _ _) (Nat.dvd_mul_left _ _)
      rw [← h1] at hs
      exact (Nat.dvd_add_iff_right hz).2 hs
  rw [hg]
  refine ⟨rfl, ?_⟩
  have hp : 0 < Nat.gcd (x * y) (y + z) := Nat.gcd_pos_of_pos_right _ (by omega)
  obtain ⟨u, hu⟩ := Nat.gcd_dvd_left (x * y) (y + z)
  obtain ⟨v, hv⟩ := Nat.gcd_dvd_right (x * y) (y + z)
  obtain ⟨t, ht⟩ : Nat.gcd (x * y) (y + z) ∣ x * z := hg ▸ Nat.gcd_dvd_left (x * z) (y + z)
  have hk : x * y + x * z = x * (y + z) := by rw [Nat.mul_add]
  generalize Nat.gcd (x * y) (y + z) = g at *
  rw [hu, ht, hv, Nat.mul_div_cancel_left _ hp, Nat.mul_div_cancel_left _ hp, Nat.mul_div_cancel_left _ hp]
  rw [hu, ht, hv] at hk
  have h2 : g * (u + t) = g * (x * v) := by rw [Nat.mul_add, hk]; rw [Nat.mul_left_comm]
  have h3 := Nat.eq_of_mul_eq_mul_left hp h2
  rw [← Int.natCast_mul, ← Int.natCast_add, ← h3, Nat.add_comm]
/-- the floor of a fraction is that of the lowered one -/
theorem low_div {n r : Int} (hn : 0 ≤ n) (hr : 1 ≤ r) : (ln n r).tdiv (ld n r) = n / r := by
  obtain ⟨x, rfl⟩ := Int.eq_ofNat_of_zero_le hn
  obtain ⟨y, rfl⟩ := Int.eq_ofNat_of_zero_le (show 0 ≤ r by omega)
  rw [ln_nat, ld_nat]
  have hp : 0 < Nat.gcd x y := Nat.gcd_pos_of_pos_right _ (by omega)
  obtain ⟨u, hu⟩ := Nat.gcd_dvd_left x y
  obtain ⟨v, hv⟩ := Nat.gcd_dvd_right x y
  generalize Nat.gcd x y = g at *
  rw [Int.tdiv_eq_ediv_of_nonneg (Int.natCast_nonneg _)]
  subst hu hv
  rw [Nat.mul_div_cancel_left _ hp, Nat.mul_div_cancel_left _ hp, ← Int.natCast_ediv, ← Int.natCast_ediv, Nat.mul_div_mul_left _ _ hp]
theorem cancel {x y s : Int} (hs : 1 ≤ s) (h : x * s = y * s) : x = y := Int.eq_of_mul_eq_mul_right (by omega) h
theorem area_below {a b c s G H N D : Int} (hs : 1 ≤ s) (h1 : G * (2 * s) = H * (a * b * c)) (h2 : N * s = D * (b * c)) : G * 2 * D = H * a * N := by
  refine cancel hs ?_
  have : G * 2 * D * s = (G * (2 * s)) * D := by grind
  rw [this, h1]
  have : H * a * N * s = H * a * (N * s) := by grind
  rw [this, h2]
  grind
theorem areas {a s t G H U V : Int} (hs : 1 ≤ s) (h1 : G * (2 * s) = H * (a * t)) (h2 : U * (2 * s) = V * (a * (s * s - t))) : U * H * 2 + G * V * 2 = a * s * V * H := by
  refine cancel hs ?_
  have e : (U * H * 2 + G * V * 2) * s = (U * (2 * s)) * H + (G * (2 * s)) * V := by grind
  rw [e, h1, h2]
  grind
theorem other_height {b c s N D : Int} (hs : s = b + c) (hb : 1 ≤ b) (hc : 1 ≤ c) (hN : 1 ≤ N) (hD : 1 ≤ D) (h : N * s = D * (b * c)) : N < D * b ∧ N * b = (D * b - N) * c := by
  subst hs
  have e : N * b = (D * b - N) * c := by grind
  refine ⟨?_, e⟩
  rcases Int.lt_or_le N (D * b) with k | k
  · exact k
  · have h1 := Int.mul_pos (show 0 < N by omega) (show 0 < b by omega)
    have h2 := Int.mul_nonneg (show 0 ≤ -(D * b - N) by omega) (show 0 ≤ c by omega)
    rw [Int.neg_mul] at h2
    omega
/-- a fraction that is lowered is low -/
theorem low_low {x y : Int} (hx : 0 ≤ x) (hx' : x ≤ 4611686018427387904) (hy : 1 ≤ y) (hy' : y ≤ 4611686018427387904) (hg : Nat.gcd x.toNat y.toNat = 1) : ∀ W : World, Hid (Calls Tryd.prog 25 #[.int .i64 x, .int .i64 y] W fun e w' => e = .returned (.bool true) ∧ ∃ n, w' = W.drewN n) := by
  intro W
  have h := jLow_any x y.toNat (by omega) (by omega) (by omega) (by omega) W
  rw [show x.natAbs = x.toNat by omega, hg, Int.toNat_of_nonneg (by omega)] at h
  exact Lib.hid h
set_option maxHeartbeats 1000000 in
theorem jIs_yes {x y a b : Int} (hx : 0 ≤ x) (hx' : x ≤ 1000000000) (hy : 1 ≤ y) (hy' : y ≤ 1000000000) (hg : Nat.gcd x.toNat y.toNat = 1) (hb : 0 ≤ b) (hb' : b ≤ 1000000) (ha : 0 ≤ a) (ha' : a ≤ 1000000000) (e : x * b = a * y) : ∀ W : World, Hid (Calls Tryd.prog 24 #[.int .i64 x, .int .i64 y, .int .i64 a, .int .i64 b] W fun e w' => e = .returned (.bool true) ∧ ∃ n, w' = W.drewN n) := by
  intro W
  refine Lib.hid ?_
  have HL := low_low (x := x) (y := y) hx (by omega) hy (by omega) hg
  obtain ⟨m1, m2⟩ := mul_bdx (a := x) (b := b) (m := 1000000000) (k := 1000000) hx hb hx' hb'
  have w1 : IntKind.i64.wrap (x * b) = x * b := IntWalk.i64_in _ ⟨by omega, by omega⟩
  have w2 : IntKind.i64.wrap (a * y) = x * b := by rw [← e]; exact w1
  clear m1 m2 e hg
  go_enter Tryd.func24, Tryd.ntmps24
  go_wp2_with fail
  refine ((HL _).out).mono ?_
  rintro e w' ⟨rfl, n, rfl⟩
  go_wp2
  go_ret
  exact ⟨rfl, n, rfl⟩
end Go.Proofs.YtohlbnfncllhoaaDoor

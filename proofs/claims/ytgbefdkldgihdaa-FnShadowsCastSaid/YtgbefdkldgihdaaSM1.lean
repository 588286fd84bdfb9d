/- What the calls of the law FnShadowsCast tell. -/
import Derived.Test.YtgbefdkldgihdaaFR
namespace Go.Proofs.Ytgbefdkldgihdaa
open Go.RowKit
set_option linter.unusedVariables false
set_option linter.unusedSimpArgs false
theorem ld_one {n a : Int} (ha : 1 ≤ a) : 1 ≤ ld n a := by
  obtain ⟨m, rfl⟩ := Int.eq_ofNat_of_zero_le (show 0 ≤ a by omega)
  unfold ld
  have hd : Nat.gcd n.toNat m ∣ m := Nat.gcd_dvd_right _ _
  have hg : 0 < Nat.gcd n.toNat m := Nat.gcd_pos_of_pos_right _ (by omega)
  have h := Nat.div_pos (Nat.le_of_dvd (by omega) hd) hg
  simp only [Int.toNat_natCast]
  rw [← Int.natCast_ediv]
  omega
theorem told_facts {x y : Int} (hx : 0 ≤ x) (hy : 1 ≤ y) : (0 ≤ ln x y ∧ ln x y ≤ x) ∧ (1 ≤ ld x y ∧ ld x y ≤ y) ∧ Nat.gcd (ln x y).toNat (ld x y).toNat = 1 ∧ ln x y * y = x * ld x y :=
  ⟨ln_bd hx hy, ⟨ld_one hy, (ld_bd hx hy).2⟩, low_gcd hx hy, by rw [cross hx hy, Int.mul_comm]⟩
theorem ln_whole {x d : Int} (hx : 0 ≤ x) (hd : 1 ≤ d) : ln (x * d) d = x ∧ ld (x * d) d = 1 := by
  have h := low_mul (l := d) (x := x) (y := 1) hd hx (by omega)
  rw [Int.mul_one, Int.mul_comm d x] at h
  obtain ⟨a, rfl⟩ := Int.eq_ofNat_of_zero_le hx
  have e1 : ln (a : Int) 1 = a := by
    have := ln_nat a 1; simp at this; exact this
  have e2 : ld (a : Int) 1 = 1 := by
    have := ld_nat a 1; simp at this; exact this
  rw [e1, e2] at h
  exact h
theorem within_mk {n a b : Int} (h1 : a ≤ n) (h2 : n ≤ b) : within n a b = true := by simp [within, h1, h2]
def CastF (l a b N1 D1 N2 D2 : Int) : Prop :=
  ((2 ≤ l ∧ l ≤ 200) ∧ (1 ≤ a ∧ a ≤ 500) ∧ (1 ≤ b ∧ b ≤ 200) ∧ b < l) ∧ (1 ≤ N1 ∧ N1 ≤ 100000) ∧ (1 ≤ D1 ∧ D1 ≤ 200) ∧ (1 ≤ N2 ∧ N2 ≤ 100000) ∧ (1 ≤ D2 ∧ D2 ≤ 200) ∧ (Nat.gcd N1.toNat D1.toNat = 1 ∧ Nat.gcd N2.toNat D2.toNat = 1) ∧
    N1 * (l - b) = a * b * D1 ∧ N2 * D1 = (a * D1 + N1) * D2 ∧ N2 * (l - b) = a * l * D2 ∧
    (D1 = 1 → N1 ≤ 500 → (∀ W : World, Hid (Calls Try.prog 15 #[.agg #[.int .i64 a, .int .i64 b], .int .i64 N1] W fun e w' => e = .returned (.tuple #[.int .i64 l, .int .i64 1, .bool true]) ∧ Below W.heap.size W w')) ∧ (∀ W : World, Hid (Calls Try.prog 16 #[.int .i64 l, .int .i64 a, .int .i64 N1] W fun e w' => e = .returned (.tuple #[.int .i64 b, .int .i64 1, .bool true]) ∧ Below W.heap.size W w')) ∧ (∀ W : World, Hid (Calls Try.prog 17 #[.int .i64 l, .int .i64 b, .int .i64 N1] W fun e w' => e = .returned (.tuple #[.int .i64 a, .int .i64 1, .bool true]) ∧ Below W.heap.size W w')))
def WallF (l a b x N2 D2 N3 D3 : Int) : Prop :=
  (a < x ∧ x ≤ 500) ∧ (0 ≤ N3 ∧ N3 ≤ 100000) ∧ (1 ≤ D3 ∧ D3 ≤ 500) ∧ Nat.gcd N3.toNat D3.toNat = 1 ∧ N3 < b * D3 ∧ ((N3 = 0) ↔ N2 ≤ x * D2) ∧ (0 < N3 → N3 * a = D3 * (l * a - (l - b) * x))
theorem cast_pack (l a b x : Int) : ∃ (N1 D1 N2 D2 N3 D3 : Int) (OK TH : Bool), (∀ W : World, Hid (Calls Try.prog 6 #[.int .i64 l, .agg #[.int .i64 a, .int .i64 b]] W fun e w' => e = .returned (.tuple #[.int .i64 N1, .int .i64 D1, .bool OK]) ∧ Below W.heap.size W w')) ∧ (∀ W : World, Hid (Calls Try.prog 7 #[.int .i64 l, .agg #[.int .i64 a, .int .i64 b]] W fun e w' => e = .returned (.tuple #[.int .i64 N1, .int .i64 D1, .bool OK]) ∧ Below W.heap.size W w')) ∧ (∀ W : World, Hid (Calls Try.prog 8 #[.int .i64 l, .agg #[.int .i64 a, .int .i64 b]] W fun e w' => e = .returned (.tuple #[.int .i64 N2, .int .i64 D2, .bool OK]) ∧ Below W.heap.size W w')) ∧ (∀ W : World, Hid (Calls Try.prog 9 #[.int .i64 l, .agg #[.int .i64 a, .int .i64 b]] W fun e w' => e = .returned (.tuple #[.int .i64 N2, .int .i64 D2, .bool OK]) ∧ Below W.heap.size W w')) ∧ (∀ W : World, Hid (Calls Try.prog 10 #[.int .i64 l, .agg #[.int .i64 a, .int .i64 b], .int .i64 x] W fun e w' => e = .returned (.tuple #[.int .i64 N3, .int .i64 D3, .bool TH]) ∧ Below W.heap.size W w')) ∧ (∀ W : World, Hid (Calls Try.prog 11 #[.int .i64 l, .agg #[.int .i64 a, .int .i64 b], .int .i64 x] W fun e w' => e = .returned (.tuple #[.int .i64 N3, .int .i64 D3, .bool TH]) ∧ Below W.heap.size W w')) ∧ (∀ W : World, Hid (Calls Try.prog 12 #[.int .i64 l, .agg #[.int .i64 a, .int .i64 b], .int .i64 x] W fun e w' => e = .returned (.tuple #[.int .i64 N3, .int .i64 D3, .bool TH]) ∧ Below W.heap.size W w')) ∧ (∀ W : World, Hid (Calls Try.prog 13 #[.int .i64 l, .agg #[.int .i64 a, .int .i64 b], .int .i64 x] W fun e w' => e = .returned (.tuple #[.int .i64 N3, .int .i64 D3, .bool TH]) ∧ Below W.heap.size W w')) ∧ (OK = true → Hid (CastF l a b N1 D1 N2 D2)) ∧ (TH = true → Hid (OK = true ∧ WallF l a b x N2 D2 N3 D3)) := by
  refine ⟨_, _, _, _, _, _, _, _, fun W => Lib.hid (impl_ShadowLength l a b W), fun W => Lib.hid (spec_ShadowLength l a b W), fun W => Lib.hid (impl_ShadowEnd l a b W), fun W => Lib.hid (spec_ShadowEnd l a b W),
    fun W => Lib.hid (impl_ShadowOnWall l a b x W), fun W => Lib.hid (spec_ShadowOnWall l a b x W), fun W => Lib.hid (impl_HiddenHeight l a b x W), fun W => Lib.hid (spec_HiddenHeight l a b x W), fun h => Lib.hid ?_, fun h => Lib.hid ?_⟩
  · simp only [SL, SE, h, if_true]
    obtain ⟨⟨l0, l1⟩, ⟨a0, a1⟩, ⟨b0, b1⟩, bl⟩ := okB_true h
    obtain ⟨m0, m1⟩ := mul_bd2 (a := a) (b := b) (m := 500) (k := 200) (by omega) (by omega) (by omega) (by omega)
    obtain ⟨m2, m3⟩ := mul_bd2 (a := a) (b := l) (m := 500) (k := 200) (by omega) (by omega) (by omega) (by omega)
    have p0 : 0 < a * b := Int.mul_pos (by omega) (by omega)
    have p1 : 0 < a * l := Int.mul_pos (by omega) (by omega)
    obtain ⟨⟨t0, t1⟩, ⟨t2, t3⟩, t4, t5⟩ := told_facts (x := a * b) (y := l - b) m0 (by omega)
    obtain ⟨⟨u0, u1⟩, ⟨u2, u3⟩, u4, u5⟩ := told_facts (x := a * l) (y := l - b) m2 (by omega)
    generalize ln (a * b) (l - b) = N1 at *
    generalize ld (a * b) (l - b) = D1 at *
    generalize ln (a * l) (l - b) = N2 at *
    generalize ld (a * l) (l - b) = D2 at *
    have n1 : 1 ≤ N1 := by
      rcases Int.lt_or_le 0 N1 with g | g
      · omega
      · obtain rfl : N1 = 0 := by omega
        have := Int.mul_pos p0 (show 0 < D1 by omega)
        omega
    have n2 : 1 ≤ N2 := by
      rcases Int.lt_or_le 0 N2 with g | g
      · omega
      · obtain rfl : N2 = 0 := by omega
        have := Int.mul_pos p1 (show 0 < D2 by omega)
        omega
    have e2 : (l - b) * (N2 * D1) = (l - b) * ((a * D1 + N1) * D2) := by grind
    refine ⟨⟨⟨l0, l1⟩, ⟨a0, a1⟩, ⟨b0, b1⟩, bl⟩, ⟨n1, by omega⟩, ⟨t2, by omega⟩, ⟨n2, by omega⟩, ⟨u2, by omega⟩, ⟨t4, u4⟩, t5, Int.eq_of_mul_eq_mul_left (by omega) e2, u5, fun hD hN => ?_⟩
    subst hD
    rw [Int.mul_one] at t5
    have k1 : b * (a + N1) = l * N1 := by grind
    have k2 : l * N1 = b * (a + N1) := k1.symm
    have k3 : N1 * (l - b) = a * b := t5
    have hP : okP a b = true := by simp only [okP, within_mk a0 a1, within_mk b0 b1, Bool.and_self]
    have hM : okM l = true := within_mk l0 l1
    have w1 := within_mk n1 hN
    refine ⟨fun W => Lib.hid ?_, fun W => Lib.hid ?_, fun W => Lib.hid ?_⟩
    · have hc := impl_LampOfShadow a b N1 W
      have ho : okLS a b N1 = true := by simp only [okLS, hP, w1, Bool.and_self]
      simp only [LS, ho, if_true, k1, (ln_whole (x := l) (d := N1) (by omega) n1).1, (ln_whole (x := l) (d := N1) (by omega) n1).2] at hc
      exact hc
    · have hc := impl_PoleOfShadow l a N1 W
      have ho : okPS l a N1 = true := by simp only [okPS, hM, within_mk a0 a1, w1, Bool.and_self]
      simp only [PS, ho, if_true, k2, (ln_whole (x := b) (d := a + N1) (by omega) (by omega)).1, (ln_whole (x := b) (d := a + N1) (by omega) (by omega)).2] at hc
      exact hc
    · have hc := impl_PlaceOfShadow l b N1 W
      have ho : okPL l b N1 = true := by simp only [okPL, hM, within_mk b0 (show b ≤ l - 1 by omega), w1, Bool.and_self]
      simp only [PL, ho, if_true, k3, (ln_whole (x := a) (d := b) (by omega) b0).1, (ln_whole (x := a) (d := b) (by omega) b0).2] at hc
      exact hc
  · have h' := h
    simp only [okW, Bool.and_eq_true] at h'
    obtain ⟨hb, hx⟩ := h'
    refine ⟨hb, ?_⟩
    obtain ⟨x0, x1⟩ := within_true hx
    simp only [HH, SE, h, hb, if_true]
    obtain ⟨⟨l0, l1⟩, ⟨a0, a1⟩, ⟨b0, b1⟩, bl⟩ := okB_true hb
    obtain ⟨m2, m3⟩ := mul_bd2 (a := a) (b := l) (m := 500) (k := 200) (by omega) (by omega) (by omega) (by omega)
    obtain ⟨m4, m5⟩ := mul_bd2 (a := l - b) (b := x) (m := 200) (k := 500) (by omega) (by omega) (by omega) (by omega)
    obtain ⟨⟨u0, u1⟩, ⟨u2, u3⟩, u4, u5⟩ := told_facts (x := a * l) (y := l - b) m2 (by omega)
    have hg0 : 0 ≤ hgt l a b x := by unfold hgt; omega
    have hla : l * a = a * l := Int.mul_comm _ _
    have hg1 : hgt l a b x ≤ 100000 := by unfold hgt line; omega
    obtain ⟨⟨t0, t1⟩, ⟨t2, t3⟩, t4, t5⟩ := told_facts (x := hgt l a b x) (y := a) hg0 (by omega)
    have hgd : hgt l a b x = 0 ∧ l * a ≤ (l - b) * x ∨ hgt l a b x = l * a - (l - b) * x ∧ 0 < l * a - (l - b) * x := by unfold hgt line; omega
    have hlt : (l - b) * a < (l - b) * x := Int.mul_lt_mul_of_pos_left (by omega) (by omega)
    have hlb : (l - b) * a = l * a - b * a := Int.sub_mul _ _ _
    generalize ln (a * l) (l - b) = N2 at *
    generalize ld (a * l) (l - b) = D2 at *
    generalize ln (hgt l a b x) a = N3 at *
    generalize ld (hgt l a b x) a = D3 at *
    generalize hgt l a b x = G at *
    have pb : 0 < b * a := Int.mul_pos (by omega) (by omega)
    have key : ∀ z : Int, 0 < z * a → 0 < z := fun z hz => by
      rcases Int.lt_or_le 0 z with g | g
      · exact g
      · have := Int.mul_nonneg (a := -z) (b := a) (by omega) (by omega)
        rw [Int.neg_mul] at this
        omega
    refine ⟨⟨by omega, x1⟩, ⟨t0, by omega⟩, ⟨t2, by omega⟩, t4, ?_, ?_, fun hN => ?_⟩
    · have hG : G < b * a := by omega
      have q : 0 < (b * a - G) * D3 := Int.mul_pos (by omega) (by omega)
      have q2 : (b * D3 - N3) * a = (b * a - G) * D3 := by grind
      have := key (b * D3 - N3) (by rw [q2]; exact q)
      omega
    · have hz : N3 = 0 ↔ G = 0 := by
        constructor
        · intro e
          rw [e, Int.zero_mul] at t5
          rcases Int.mul_eq_zero.1 t5.symm with k | k
          · exact k
          · omega
        · intro e
          rw [e, Int.zero_mul] at t5
          rcases Int.mul_eq_zero.1 t5 with k | k
          · exact k
          · omega
      have hcmp : N2 ≤ x * D2 ↔ a * l ≤ (l - b) * x := by
        have e1 : (l - b) * (x * D2 - N2) = D2 * ((l - b) * x - a * l) := by grind
        constructor
        · intro k
          have := Int.mul_nonneg (a := l - b) (b := x * D2 - N2) (by omega) (by omega)
          rcases Int.lt_or_le ((l - b) * x - a * l) 0 with g | g
          · have := Int.mul_pos (a := D2) (b := -((l - b) * x - a * l)) (by omega) (by omega)
            rw [Int.mul_neg] at this
            omega
          · omega
        · intro k
          have := Int.mul_nonneg (a := D2) (b := (l - b) * x - a * l) (by omega) (by omega)
          rcases Int.lt_or_le (x * D2 - N2) 0 with g | g
          · have := Int.mul_pos (a := l - b) (b := -(x * D2 - N2)) (by omega) (by omega)
            rw [Int.mul_neg] at this
            omega
          · omega
      rw [hz, hcmp]
      omega
    · have hz : G ≠ 0 := by
        intro e
        rw [e, Int.zero_mul] at t5
        have := Int.mul_pos hN (show 0 < a by omega)
        omega
      have hG : G = l * a - (l - b) * x := by omega
      rw [t5, hG, Int.mul_comm]
def SunF (h r u N D : Int) : Prop := ((1 ≤ h ∧ h ≤ 200) ∧ (1 ≤ r ∧ r ≤ 500) ∧ 1 ≤ u ∧ u ≤ 500) ∧ (1 ≤ N ∧ N ≤ 100000) ∧ (1 ≤ D ∧ D ≤ 500) ∧ Nat.gcd N.toNat D.toNat = 1 ∧
  (D = 1 → N ≤ 500 → ∃ p q : Int, (∀ W : World, Hid (Calls Try.prog 29 #[.int .i64 h, .int .i64 N] W fun e w' => e = .returned (.tuple #[.int .i64 p, .int .i64 q, .bool true]) ∧ Below W.heap.size W w')) ∧ (1 ≤ p ∧ p ≤ 200) ∧ (1 ≤ q ∧ q ≤ 500) ∧ Nat.gcd p.toNat q.toNat = 1 ∧ p * u = r * q)
theorem sun_pack (h r u : Int) : ∃ (N D : Int) (OK : Bool), (∀ W : World, Hid (Calls Try.prog 20 #[.int .i64 h, .int .i64 r, .int .i64 u] W fun e w' => e = .returned (.tuple #[.int .i64 N, .int .i64 D, .bool OK]) ∧ Below W.heap.size W w')) ∧ (∀ W : World, Hid (Calls Try.prog 21 #[.int .i64 h, .int .i64 r, .int .i64 u] W fun e w' => e = .returned (.tuple #[.int .i64 N, .int .i64 D, .bool OK]) ∧ Below W.heap.size W w')) ∧ (OK = true → Hid (SunF h r u N D)) := by
  refine ⟨_, _, _, fun W => Lib.hid (impl_SunShadow h r u W), fun W => Lib.hid (spec_SunShadow h r u W), fun ho => Lib.hid ?_⟩
  simp only [SU, ho, if_true]
  simp only [okSU, Bool.and_eq_true] at ho
  obtain ⟨h0, h1⟩ := within_true ho.1
  obtain ⟨r0, r1⟩ := within_true ho.2.1
  obtain ⟨u0, u1⟩ := within_true ho.2.2
  obtain ⟨m0, m1⟩ := mul_bd2 (a := h) (b := u) (m := 200) (k := 500) (by omega) (by omega) (by omega) (by omega)
  have p0 : 0 < h * u := Int.mul_pos (by omega) (by omega)
  obtain ⟨⟨t0, t1⟩, ⟨t2, t3⟩, t4, t5⟩ := told_facts (x := h * u) (y := r) m0 r0
  generalize ln (h * u) r = N at *
  generalize ld (h * u) r = D at *
  have n1 : 1 ≤ N := by
    rcases Int.lt_or_le 0 N with g | g
    · omega
    · obtain rfl : N = 0 := by omega
      have := Int.mul_pos p0 (show 0 < D by omega)
      omega
  refine ⟨⟨⟨h0, h1⟩, ⟨r0, r1⟩, u0, u1⟩, ⟨n1, by omega⟩, ⟨t2, by omega⟩, t4, fun hD hN => ?_⟩
  subst hD
  rw [Int.mul_one] at t5
  have hs : okSP h N = true := by simp only [okSP, within_mk h0 h1, within_mk n1 hN, Bool.and_self]
  obtain ⟨⟨q0, q1⟩, ⟨q2, q3⟩, q4, q5⟩ := told_facts (x := h) (y := N) (by omega) n1
  refine ⟨ln h N, ld h N, fun W => Lib.hid ?_, ?_, ?_, q4, ?_⟩
  · have hc := impl_SunSlope h N W
    simp only [SP, hs, if_true] at hc
    exact hc
  · refine ⟨?_, by omega⟩
    rcases Int.lt_or_le 0 (ln h N) with g | g
    · omega
    · have e : ln h N = 0 := by omega
      rw [e, Int.zero_mul] at q5
      have := Int.mul_pos (show 0 < h by omega) (show 0 < ld h N by omega)
      omega
  · exact ⟨q2, by omega⟩
  · generalize ln h N = p at *
    generalize ld h N = q at *
    have : N * (p * u) = N * (r * q) := by grind
    exact Int.eq_of_mul_eq_mul_left (by omega) this
def SlopeF (s c N D : Int) : Prop := ((1 ≤ s ∧ s ≤ 200) ∧ 1 ≤ c ∧ c ≤ 500) ∧ ∀ W : World, Hid (Calls Try.prog 20 #[.int .i64 s, .int .i64 N, .int .i64 D] W fun e w' => e = .returned (.tuple #[.int .i64 c, .int .i64 1, .bool true]) ∧ Below W.heap.size W w')
theorem slope_pack (s c : Int) : ∃ (N D : Int) (OK : Bool), (∀ W : World, Hid (Calls Try.prog 29 #[.int .i64 s, .int .i64 c] W fun e w' => e = .returned (.tuple #[.int .i64 N, .int .i64 D, .bool OK]) ∧ Below W.heap.size W w')) ∧ (∀ W : World, Hid (Calls Try.prog 30 #[.int .i64 s, .int .i64 c] W fun e w' => e = .returned (.tuple #[.int .i64 N, .int .i64 D, .bool OK]) ∧ Below W.heap.size W w')) ∧ (OK = true → Hid (SlopeF s c N D)) := by
  refine ⟨_, _, _, fun W => Lib.hid (impl_SunSlope s c W), fun W => Lib.hid (spec_SunSlope s c W), fun ho => Lib.hid ?_⟩
  simp only [SP, ho, if_true]
  simp only [okSP, Bool.and_eq_true] at ho
  obtain ⟨s0, s1⟩ := within_true ho.1
  obtain ⟨c0, c1⟩ := within_true ho.2
  obtain ⟨⟨t0, t1⟩, ⟨t2, t3⟩, t4, t5⟩ := told_facts (x := s) (y := c) (by omega) c0
  generalize ln s c = N at *
  generalize ld s c = D at *
  have n1 : 1 ≤ N := by
    rcases Int.lt_or_le 0 N with g | g
    · omega
    · obtain rfl : N = 0 := by omega
      have := Int.mul_pos (show 0 < s by omega) (show 0 < D by omega)
      omega
  refine ⟨⟨⟨s0, s1⟩, c0, c1⟩, fun W => Lib.hid ?_⟩
  have hc := impl_SunShadow s N D W
  have hs : okSU s N D = true := by simp only [okSU, within_mk s0 s1, within_mk n1 (show N ≤ 500 by omega), within_mk t2 (show D ≤ 500 by omega), Bool.and_self]
  have k : s * D = c * N := by rw [← t5, Int.mul_comm]
  simp only [SU, hs, if_true, k, (ln_whole (x := c) (d := N) (by omega) n1).1, (ln_whole (x := c) (d := N) (by omega) n1).2] at hc
  exact hc
theorem lamp_pack (a b s : Int) : ∃ (N D : Int) (OK : Bool), (∀ W : World, Hid (Calls Try.prog 15 #[.agg #[.int .i64 a, .int .i64 b], .int .i64 s] W fun e w' => e = .returned (.tuple #[.int .i64 N, .int .i64 D, .bool OK]) ∧ Below W.heap.size W w')) ∧ (∀ W : World, Hid (Calls Try.prog 23 #[.agg #[.int .i64 a, .int .i64 b], .int .i64 s] W fun e w' => e = .returned (.tuple #[.int .i64 N, .int .i64 D, .bool OK]) ∧ Below W.heap.size W w')) := ⟨_, _, _, fun W => Lib.hid (impl_LampOfShadow a b s W), fun W => Lib.hid (spec_LampOfShadow a b s W)⟩
theorem pole_pack (l p s : Int) : ∃ (N D : Int) (OK : Bool), (∀ W : World, Hid (Calls Try.prog 16 #[.int .i64 l, .int .i64 p, .int .i64 s] W fun e w' => e = .returned (.tuple #[.int .i64 N, .int .i64 D, .bool OK]) ∧ Below W.heap.size W w')) ∧ (∀ W : World, Hid (Calls Try.prog 25 #[.int .i64 l, .int .i64 p, .int .i64 s] W fun e w' => e = .returned (.tuple #[.int .i64 N, .int .i64 D, .bool OK]) ∧ Below W.heap.size W w')) := ⟨_, _, _, fun W => Lib.hid (impl_PoleOfShadow l p s W), fun W => Lib.hid (spec_PoleOfShadow l p s W)⟩
theorem place_pack (l h s : Int) : ∃ (N D : Int) (OK : Bool), (∀ W : World, Hid (Calls Try.prog 17 #[.int .i64 l, .int .i64 h, .int .i64 s] W fun e w' => e = .returned (.tuple #[.int .i64 N, .int .i64 D, .bool OK]) ∧ Below W.heap.size W w')) ∧ (∀ W : World, Hid (Calls Try.prog 27 #[.int .i64 l, .int .i64 h, .int .i64 s] W fun e w' => e = .returned (.tuple #[.int .i64 N, .int .i64 D, .bool OK]) ∧ Below W.heap.size W w')) := ⟨_, _, _, fun W => Lib.hid (impl_PlaceOfShadow l h s W), fun W => Lib.hid (spec_PlaceOfShadow l h s W)⟩
end Go.Proofs.Ytgbefdkldgihdaa

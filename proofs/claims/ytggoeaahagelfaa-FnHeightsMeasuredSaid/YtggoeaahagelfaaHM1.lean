/- What the calls of the law FnHeightsMeasured tell. -/
import Derived.Test.YtggoeaahagelfaaHT5
import Derived.Test.YtggoeaahagelfaaFR
namespace Go.Proofs.Ytggoeaahagelfaa
open Go.RowKit
set_option linter.unusedVariables false
set_option linter.unusedSimpArgs false
theorem Z_ok {ok : Bool} (x : Int) (h : ok = true) : Z ok x = x := by subst h; rfl
/-- what is told of a fraction x / y -/
theorem told_facts {x y : Int} (hx : 0 ≤ x) (hy : 1 ≤ y) : (0 ≤ ln x y ∧ ln x y ≤ x) ∧ (1 ≤ ld x y ∧ ld x y ≤ y) ∧ Nat.gcd (ln x y).toNat (ld x y).toNat = 1 ∧ ln x y * y = x * ld x y := by
  obtain ⟨a, b⟩ := lnd_bd hx hy
  exact ⟨a, b, low_gcd hx hy, by rw [cross hx hy, Int.mul_comm]⟩
theorem ln_whole {x d : Int} (hx : 0 ≤ x) (hd : 1 ≤ d) : ln (x * d) d = x ∧ ld (x * d) d = 1 := by
  have h := low_mul (l := d) (x := x) (y := 1) hd hx (by omega)
  rw [Int.mul_one, Int.mul_comm d x] at h
  obtain ⟨a, rfl⟩ := Int.eq_ofNat_of_zero_le hx
  have e1 : ln (a : Int) 1 = a := by
    have := ln_nat a 1; simp at this; exact this
  have e2 : ld (a : Int) 1 = 1 := by
    have := ld_nat a 1; simp at this; exact this
  rw [e1, e2] at h
  exact h
def TreeF (a s n f X Y : Int) : Prop :=
  ((1 ≤ a ∧ a ≤ 100) ∧ (1 ≤ s ∧ s ≤ 100) ∧ a < s ∧ (1 ≤ n ∧ n ≤ 2000) ∧ 1 ≤ f ∧ f ≤ 2000) ∧ (0 ≤ X ∧ X ≤ 1000000) ∧ (1 ≤ Y ∧ Y ≤ 2000) ∧ Nat.gcd X.toNat Y.toNat = 1 ∧ s * Y < X ∧ (X - a * Y) * n = (s - a) * (n + f) * Y ∧
    (Y = 1 → X ≤ 2000 → ∀ W : World, Hid (Calls Try.prog 9 #[.int .i64 a, .int .i64 X, .int .i64 n, .int .i64 f] W fun e w' => e = .returned (.tuple #[.int .i64 s, .int .i64 1, .bool true]) ∧ Below W.heap.size W w'))
theorem tree_pack (a s n f : Int) : ∃ (X Y : Int) (OK : Bool), (∀ W : World, Hid (Calls Try.prog 6 #[.int .i64 a, .int .i64 s, .int .i64 n, .int .i64 f] W fun e w' => e = .returned (.tuple #[.int .i64 X, .int .i64 Y, .bool OK]) ∧ Below W.heap.size W w')) ∧ (∀ W : World, Hid (Calls Try.prog 7 #[.int .i64 a, .int .i64 s, .int .i64 n, .int .i64 f] W fun e w' => e = .returned (.tuple #[.int .i64 X, .int .i64 Y, .bool OK]) ∧ Below W.heap.size W w')) ∧ (OK = true → Hid (TreeF a s n f X Y)) := by
  refine ⟨_, _, _, fun W => Lib.hid (impl_TreeByStaff a s n f W), fun W => Lib.hid (spec_TreeByStaff a s n f W), fun h => Lib.hid ?_⟩
  rw [Z_ok _ h, Z_ok _ h]
  obtain ⟨⟨⟨h1, h2⟩, h3⟩, h4⟩ : ((okSt a = true ∧ okSt s = true) ∧ a < s) ∧ allS [n, f] = true := by simpa [okTreeByStaff] using h
  obtain ⟨a0, a1⟩ := okSt_true h1
  obtain ⟨s0, s1⟩ := okSt_true h2
  obtain ⟨⟨n0, n1⟩, f0, f1⟩ := allS2_true h4
  obtain ⟨m0, m1⟩ := mul_bd2 (a := a) (b := n) (m := 100) (k := 2000) (by omega) (by omega) (by omega) (by omega)
  obtain ⟨m2, m3⟩ := mul_bd2 (a := s - a) (b := n + f) (m := 100) (k := 4000) (by omega) (by omega) (by omega) (by omega)
  obtain ⟨⟨t0, t1⟩, ⟨t2, t3⟩, t4, t5⟩ := told_facts (x := a * n + (s - a) * (n + f)) (y := n) (by omega) n0
  generalize ln (a * n + (s - a) * (n + f)) n = X at *
  generalize ld (a * n + (s - a) * (n + f)) n = Y at *
  have e1 : (X - a * Y) * n = (s - a) * (n + f) * Y := by grind
  have e2 : (X - s * Y) * n = (s - a) * f * Y := by grind
  have p1 : 0 < (s - a) * f * Y := Int.mul_pos (Int.mul_pos (by omega) (by omega)) (by omega)
  have e3 : s * Y < X := by
    rcases Int.lt_or_le 0 (X - s * Y) with g | g
    · omega
    · have := Int.mul_nonneg (a := -(X - s * Y)) (b := n) (by omega) (by omega)
      rw [Int.neg_mul] at this
      omega
  refine ⟨⟨⟨a0, a1⟩, ⟨s0, s1⟩, h3, ⟨n0, n1⟩, f0, f1⟩, ⟨t0, by omega⟩, ⟨t2, by omega⟩, t4, e3, e1, fun hY hX W => Lib.hid ?_⟩
  subst hY
  have hs : s < X := by omega
  have ho : okStaffForTree a X n f = true := by
    have : allS [X, n, f] = true := by
      simp only [allS, List.all_cons, List.all_nil, Bool.and_true, Bool.and_eq_true]
      refine ⟨?_, ?_, ?_⟩ <;> (unfold okS within; simp; omega)
    simp only [okStaffForTree, h1, this, Bool.true_and, decide_eq_true_eq]
    omega
  have e4 : a * (n + f) + (X - a) * n = s * (n + f) := by grind
  have hc := impl_StaffForTree a X n f W
  rw [Z_ok _ ho, Z_ok _ ho, ho, e4, (ln_whole (x := s) (d := n + f) (by omega) (by omega)).1, (ln_whole (x := s) (d := n + f) (by omega) (by omega)).2] at hc
  exact hc
def ShadF (p h t X Y : Int) : Prop := ((1 ≤ p ∧ p ≤ 100) ∧ (1 ≤ h ∧ h ≤ 2000) ∧ 1 ≤ t ∧ t ≤ 2000) ∧ (0 ≤ X ∧ X ≤ 200000) ∧ (1 ≤ Y ∧ Y ≤ 2000) ∧ Nat.gcd X.toNat Y.toNat = 1 ∧ X * h = p * t * Y
theorem shadow_pack (p h t : Int) : ∃ (X Y : Int) (OK : Bool), (∀ W : World, Hid (Calls Try.prog 12 #[.int .i64 p, .int .i64 h, .int .i64 t] W fun e w' => e = .returned (.tuple #[.int .i64 X, .int .i64 Y, .bool OK]) ∧ Below W.heap.size W w')) ∧ (∀ W : World, Hid (Calls Try.prog 13 #[.int .i64 p, .int .i64 h, .int .i64 t] W fun e w' => e = .returned (.tuple #[.int .i64 X, .int .i64 Y, .bool OK]) ∧ Below W.heap.size W w')) ∧ (∀ W : World, Hid (Calls Try.prog 14 #[.int .i64 p, .int .i64 h, .int .i64 t] W fun e w' => e = .returned (.tuple #[.int .i64 X, .int .i64 Y, .bool OK]) ∧ Below W.heap.size W w')) ∧ (∀ W : World, Hid (Calls Try.prog 15 #[.int .i64 p, .int .i64 h, .int .i64 t] W fun e w' => e = .returned (.tuple #[.int .i64 X, .int .i64 Y, .bool OK]) ∧ Below W.heap.size W w')) ∧ (OK = true → Hid (ShadF p h t X Y)) := by
  refine ⟨_, _, _, fun W => Lib.hid (impl_TowerByShadow p h t W), fun W => Lib.hid (spec_TowerByShadow p h t W), fun W => Lib.hid (impl_TowerByMirror p h t W), fun W => Lib.hid (spec_TowerByMirror p h t W), fun ho => Lib.hid ?_⟩
  rw [Z_ok _ ho, Z_ok _ ho]
  obtain ⟨h1, h2⟩ : okSt p = true ∧ allS [h, t] = true := by simpa [okTowerByShadow] using ho
  obtain ⟨a0, a1⟩ := okSt_true h1
  obtain ⟨⟨n0, n1⟩, f0, f1⟩ := allS2_true h2
  obtain ⟨m0, m1⟩ := mul_bd2 (a := p) (b := t) (m := 100) (k := 2000) (by omega) (by omega) (by omega) (by omega)
  obtain ⟨⟨t0, t1⟩, ⟨t2, t3⟩, t4, t5⟩ := told_facts (x := p * t) (y := h) (by omega) n0
  exact ⟨⟨⟨a0, a1⟩, ⟨n0, n1⟩, f0, f1⟩, ⟨t0, by omega⟩, ⟨t2, by omega⟩, t4, t5⟩
def StafF (e t n f X Y : Int) : Prop := ((1 ≤ e ∧ e ≤ 100) ∧ (1 ≤ t ∧ t ≤ 2000) ∧ (1 ≤ n ∧ n ≤ 2000) ∧ (1 ≤ f ∧ f ≤ 2000) ∧ e < t) ∧ (0 ≤ X ∧ X ≤ 5000000) ∧ (1 ≤ Y ∧ Y ≤ 4000) ∧ Nat.gcd X.toNat Y.toNat = 1 ∧ e * Y < X ∧ X < t * Y ∧ (X - e * Y) * (n + f) = (t - e) * n * Y
theorem staff_pack (e t n f : Int) : ∃ (X Y : Int) (OK : Bool), (∀ W : World, Hid (Calls Try.prog 9 #[.int .i64 e, .int .i64 t, .int .i64 n, .int .i64 f] W fun e w' => e = .returned (.tuple #[.int .i64 X, .int .i64 Y, .bool OK]) ∧ Below W.heap.size W w')) ∧ (∀ W : World, Hid (Calls Try.prog 17 #[.int .i64 e, .int .i64 t, .int .i64 n, .int .i64 f] W fun e w' => e = .returned (.tuple #[.int .i64 X, .int .i64 Y, .bool OK]) ∧ Below W.heap.size W w')) ∧ (OK = true → Hid (StafF e t n f X Y)) := by
  refine ⟨_, _, _, fun W => Lib.hid (impl_StaffForTree e t n f W), fun W => Lib.hid (spec_StaffForTree e t n f W), fun ho => Lib.hid ?_⟩
  rw [Z_ok _ ho, Z_ok _ ho]
  obtain ⟨⟨h1, h2⟩, h3⟩ : (okSt e = true ∧ allS [t, n, f] = true) ∧ e < t := by simpa [okStaffForTree] using ho
  obtain ⟨a0, a1⟩ := okSt_true h1
  obtain ⟨⟨t0, t1⟩, ⟨n0, n1⟩, f0, f1⟩ := allS3_true h2
  obtain ⟨m0, m1⟩ := mul_bd2 (a := e) (b := n + f) (m := 100) (k := 4000) (by omega) (by omega) (by omega) (by omega)
  obtain ⟨m2, m3⟩ := mul_bd2 (a := t - e) (b := n) (m := 2000) (k := 2000) (by omega) (by omega) (by omega) (by omega)
  obtain ⟨⟨u0, u1⟩, ⟨u2, u3⟩, u4, u5⟩ := told_facts (x := e * (n + f) + (t - e) * n) (y := n + f) (by omega) (by omega)
  generalize ln (e * (n + f) + (t - e) * n) (n + f) = X at *
  generalize ld (e * (n + f) + (t - e) * n) (n + f) = Y at *
  have e1 : (X - e * Y) * (n + f) = (t - e) * n * Y := by grind
  have e2 : (t * Y - X) * (n + f) = (t - e) * f * Y := by grind
  have p1 : 0 < (t - e) * n * Y := Int.mul_pos (Int.mul_pos (by omega) (by omega)) (by omega)
  have p2 : 0 < (t - e) * f * Y := Int.mul_pos (Int.mul_pos (by omega) (by omega)) (by omega)
  have key : ∀ z : Int, 0 < z * (n + f) → 0 < z := fun z hz => by
    rcases Int.lt_or_le 0 z with g | g
    · exact g
    · have := Int.mul_nonneg (a := -z) (b := n + f) (by omega) (by omega)
      rw [Int.neg_mul] at this
      omega
  have q1 := key _ (by rw [e1]; exact p1)
  have q2 := key _ (by rw [e2]; exact p2)
  exact ⟨⟨⟨a0, a1⟩, ⟨t0, t1⟩, ⟨n0, n1⟩, ⟨f0, f1⟩, h3⟩, ⟨u0, by omega⟩, ⟨u2, by omega⟩, u4, by omega, by omega, e1⟩
def WellF (a s i X Y : Int) : Prop := ((1 ≤ a ∧ a ≤ 2000) ∧ (1 ≤ s ∧ s ≤ 100) ∧ 1 ≤ i ∧ i ≤ 2000) ∧ (0 ≤ X ∧ X ≤ 200000) ∧ (1 ≤ Y ∧ Y ≤ 2000) ∧ Nat.gcd X.toNat Y.toNat = 1 ∧ X * i = s * a * Y
theorem well_pack (a s i : Int) : ∃ (X Y : Int) (OK : Bool), (∀ W : World, Hid (Calls Try.prog 19 #[.int .i64 a, .int .i64 s, .int .i64 i] W fun e w' => e = .returned (.tuple #[.int .i64 X, .int .i64 Y, .bool OK]) ∧ Below W.heap.size W w')) ∧ (∀ W : World, Hid (Calls Try.prog 20 #[.int .i64 a, .int .i64 s, .int .i64 i] W fun e w' => e = .returned (.tuple #[.int .i64 X, .int .i64 Y, .bool OK]) ∧ Below W.heap.size W w')) ∧ (OK = true → Hid (WellF a s i X Y)) := by
  refine ⟨_, _, _, fun W => Lib.hid (impl_WellDepth a s i W), fun W => Lib.hid (spec_WellDepth a s i W), fun ho => Lib.hid ?_⟩
  rw [Z_ok _ ho, Z_ok _ ho]
  obtain ⟨h1, h2⟩ : okSt s = true ∧ allS [a, i] = true := by simpa [okWellDepth] using ho
  obtain ⟨a0, a1⟩ := okSt_true h1
  obtain ⟨⟨n0, n1⟩, f0, f1⟩ := allS2_true h2
  obtain ⟨m0, m1⟩ := mul_bd2 (a := s) (b := a) (m := 100) (k := 2000) (by omega) (by omega) (by omega) (by omega)
  obtain ⟨⟨t0, t1⟩, ⟨t2, t3⟩, t4, t5⟩ := told_facts (x := s * a) (y := i) (by omega) f0
  exact ⟨⟨⟨n0, n1⟩, ⟨a0, a1⟩, f0, f1⟩, ⟨t0, by omega⟩, ⟨t2, by omega⟩, t4, t5⟩
def RivF (a b c X Y : Int) : Prop := ((1 ≤ a ∧ a ≤ 2000) ∧ (1 ≤ b ∧ b ≤ 2000) ∧ 1 ≤ c ∧ c ≤ 2000) ∧ (0 ≤ X ∧ X ≤ 4000000) ∧ (1 ≤ Y ∧ Y ≤ 2000) ∧ Nat.gcd X.toNat Y.toNat = 1 ∧ X * b = a * c * Y
theorem river_pack (a b c : Int) : ∃ (X Y : Int) (OK : Bool), (∀ W : World, Hid (Calls Try.prog 22 #[.int .i64 a, .int .i64 b, .int .i64 c] W fun e w' => e = .returned (.tuple #[.int .i64 X, .int .i64 Y, .bool OK]) ∧ Below W.heap.size W w')) ∧ (∀ W : World, Hid (Calls Try.prog 23 #[.int .i64 a, .int .i64 b, .int .i64 c] W fun e w' => e = .returned (.tuple #[.int .i64 X, .int .i64 Y, .bool OK]) ∧ Below W.heap.size W w')) ∧ (OK = true → Hid (RivF a b c X Y)) := by
  refine ⟨_, _, _, fun W => Lib.hid (impl_RiverWide a b c W), fun W => Lib.hid (spec_RiverWide a b c W), fun ho => Lib.hid ?_⟩
  rw [Z_ok _ ho, Z_ok _ ho]
  have h2 : allS [a, b, c] = true := by simpa [okRiverWide] using ho
  obtain ⟨⟨a0, a1⟩, ⟨n0, n1⟩, f0, f1⟩ := allS3_true h2
  obtain ⟨m0, m1⟩ := mul_bd2 (a := a) (b := c) (m := 2000) (k := 2000) (by omega) (by omega) (by omega) (by omega)
  obtain ⟨⟨t0, t1⟩, ⟨t2, t3⟩, t4, t5⟩ := told_facts (x := a * c) (y := b) (by omega) n0
  exact ⟨⟨⟨a0, a1⟩, ⟨n0, n1⟩, f0, f1⟩, ⟨t0, by omega⟩, ⟨t2, by omega⟩, t4, t5⟩
def SigF (n f k X Y U V : Int) : Prop := ((1 ≤ n ∧ n ≤ 2000) ∧ (1 ≤ f ∧ f ≤ 2000) ∧ (1 ≤ k ∧ k ≤ 2000) ∧ n < f) ∧ (1 ≤ X ∧ X ≤ 2000) ∧ (1 ≤ Y ∧ Y ≤ 2000) ∧ (0 ≤ U ∧ U ≤ 4000000) ∧ (1 ≤ V ∧ V ≤ 2000) ∧ (Nat.gcd X.toNat Y.toNat = 1 ∧ Nat.gcd U.toNat V.toNat = 1) ∧ U * Y = X * n * V ∧ (U + k * V) * Y = X * f * V
theorem sights_pack (n f k : Int) : ∃ (X Y U V : Int) (OK : Bool), (∀ W : World, Hid (Calls Try.prog 24 #[.int .i64 n, .int .i64 f, .int .i64 k] W fun e w' => e = .returned (.tuple #[.int .i64 X, .int .i64 Y, .bool OK]) ∧ Below W.heap.size W w')) ∧ (∀ W : World, Hid (Calls Try.prog 25 #[.int .i64 n, .int .i64 f, .int .i64 k] W fun e w' => e = .returned (.tuple #[.int .i64 X, .int .i64 Y, .bool OK]) ∧ Below W.heap.size W w')) ∧ (∀ W : World, Hid (Calls Try.prog 26 #[.int .i64 n, .int .i64 f, .int .i64 k] W fun e w' => e = .returned (.tuple #[.int .i64 U, .int .i64 V, .bool OK]) ∧ Below W.heap.size W w')) ∧ (∀ W : World, Hid (Calls Try.prog 27 #[.int .i64 n, .int .i64 f, .int .i64 k] W fun e w' => e = .returned (.tuple #[.int .i64 U, .int .i64 V, .bool OK]) ∧ Below W.heap.size W w')) ∧ (OK = true → Hid (SigF n f k X Y U V)) := by
  refine ⟨_, _, _, _, _, fun W => Lib.hid (impl_TowerByTwoSights n f k W), fun W => Lib.hid (spec_TowerByTwoSights n f k W), fun W => Lib.hid (impl_DistanceByTwoSights n f k W), fun W => Lib.hid (spec_DistanceByTwoSights n f k W), fun ho => Lib.hid ?_⟩
  rw [Z_ok _ ho, Z_ok _ ho, show okDistanceByTwoSights n f k = okTowerByTwoSights n f k from rfl, Z_ok _ ho, Z_ok _ ho]
  obtain ⟨⟨n0, n1⟩, ⟨f0, f1⟩, ⟨k0, k1⟩, nf⟩ := okSg_true (show okSg n f k = true from ho)
  obtain ⟨m0, m1⟩ := mul_bd2 (a := k) (b := n) (m := 2000) (k := 2000) (by omega) (by omega) (by omega) (by omega)
  obtain ⟨⟨t0, t1⟩, ⟨t2, t3⟩, t4, t5⟩ := told_facts (x := k) (y := f - n) (by omega) (by omega)
  obtain ⟨⟨u0, u1⟩, ⟨u2, u3⟩, u4, u5⟩ := told_facts (x := k * n) (y := f - n) (by omega) (by omega)
  generalize ln k (f - n) = X at *
  generalize ld k (f - n) = Y at *
  generalize ln (k * n) (f - n) = U at *
  generalize ld (k * n) (f - n) = V at *
  have e1 : (f - n) * (U * Y) = (f - n) * (X * n * V) := by grind
  have e2 : U * Y = X * n * V := Int.eq_of_mul_eq_mul_left (by omega) e1
  have e3 : (U + k * V) * Y = X * f * V := by grind
  have p1 : 0 < k * Y := Int.mul_pos (by omega) (by omega)
  have x1 : 1 ≤ X := by
    rcases Int.lt_or_le 0 X with g | g
    · omega
    · obtain rfl : X = 0 := by omega
      rw [Int.zero_mul] at t5
      omega
  exact ⟨⟨⟨n0, n1⟩, ⟨f0, f1⟩, ⟨k0, k1⟩, nf⟩, ⟨x1, by omega⟩, ⟨t2, by omega⟩, ⟨u0, by omega⟩, ⟨u2, by omega⟩, ⟨t4, u4⟩, e2, e3⟩
end Go.Proofs.Ytggoeaahagelfaa

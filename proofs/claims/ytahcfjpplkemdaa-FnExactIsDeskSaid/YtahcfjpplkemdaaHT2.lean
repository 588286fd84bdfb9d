/- Chapter 8: lengths; towers, trees, wells, rivers, sights. -/
import Derived.Test.YtahcfjpplkemdaaHT1
namespace Go.Proofs.Ytahcfjpplkemdaa
open Go.RowKit
set_option linter.unusedVariables false
set_option linter.unusedSimpArgs false
theorem Z_true (x : Int) : Z true x = x := rfl
theorem shows_list (w : World) (xs : List Int) (t n : Nat) (hn : n = w.heap.size) : Shows (w.alloc (.cells (xs.map (Value.int .i64)).toArray t)) (.slice (some ⟨n, 0, none⟩) xs.length xs.length) xs := by
  refine ⟨n, 0, xs.length, rfl, fun i hi => ?_⟩
  subst hn
  simp [List.getD, hi]
theorem shows1 (w : World) (x : Int) (t n : Nat) (hn : n = w.heap.size) : Shows (w.alloc (.cells #[.int .i64 x] t)) (.slice (some ⟨n, 0, none⟩) 1 1) [x] := shows_list w [x] t n hn
theorem shows2 (w : World) (x y : Int) (t n : Nat) (hn : n = w.heap.size) : Shows (w.alloc (.cells #[.int .i64 x, .int .i64 y] t)) (.slice (some ⟨n, 0, none⟩) 2 2) [x, y] := shows_list w [x, y] t n hn
theorem shows3 (w : World) (x y z : Int) (t n : Nat) (hn : n = w.heap.size) : Shows (w.alloc (.cells #[.int .i64 x, .int .i64 y, .int .i64 z] t)) (.slice (some ⟨n, 0, none⟩) 3 3) [x, y, z] := shows_list w [x, y, z] t n hn
theorem allS1 (x : Int) : allS [x] = okS x := by simp [allS]
theorem allS2_true {x y : Int} (h : allS [x, y] = true) : (1 ≤ x ∧ x ≤ 2000) ∧ 1 ≤ y ∧ y ≤ 2000 := by
  simp only [allS, List.all_cons, List.all_nil, Bool.and_true, Bool.and_eq_true] at h
  exact ⟨okS_true h.1, okS_true h.2⟩
theorem allS3_true {x y z : Int} (h : allS [x, y, z] = true) : (1 ≤ x ∧ x ≤ 2000) ∧ (1 ≤ y ∧ y ≤ 2000) ∧ 1 ≤ z ∧ z ≤ 2000 := by
  simp only [allS, List.all_cons, List.all_nil, Bool.and_true, Bool.and_eq_true] at h
  exact ⟨okS_true h.1, okS_true h.2.1, okS_true h.2.2⟩
theorem areSteps1 (x : Int) (w : World) (t n : Nat) (hn : n = w.heap.size) :
    Calls Try.prog 70 #[.slice (some ⟨n, 0, none⟩) 1 1] (w.alloc (.cells #[.int .i64 x] t)) fun e w' => e = .returned (.bool (allS [x])) ∧ w' = w.alloc (.cells #[.int .i64 x] t) :=
  (areSteps_any _ [x] (by simp) _ (shows1 w x t n hn)).mono fun _ _ h => ⟨h.1, h.2.symm⟩
theorem htLong1 (x : Int) (w : World) (t n : Nat) (hn : n = w.heap.size) :
    Calls Try.prog 84 #[.slice (some ⟨n, 0, none⟩) 1 1] (w.alloc (.cells #[.int .i64 x] t)) fun e w' => e = .returned (.bool (allS [x])) ∧ w' = w.alloc (.cells #[.int .i64 x] t) :=
  (htLong_any _ [x] (by simp) _ (shows1 w x t n hn)).mono fun _ _ h => ⟨h.1, h.2.symm⟩
theorem areSteps2 (x y : Int) (w : World) (t n : Nat) (hn : n = w.heap.size) :
    Calls Try.prog 70 #[.slice (some ⟨n, 0, none⟩) 2 2] (w.alloc (.cells #[.int .i64 x, .int .i64 y] t)) fun e w' => e = .returned (.bool (allS [x, y])) ∧ w' = w.alloc (.cells #[.int .i64 x, .int .i64 y] t) :=
  (areSteps_any _ [x, y] (by simp) _ (shows2 w x y t n hn)).mono fun _ _ h => ⟨h.1, h.2.symm⟩
theorem htLong2 (x y : Int) (w : World) (t n : Nat) (hn : n = w.heap.size) :
    Calls Try.prog 84 #[.slice (some ⟨n, 0, none⟩) 2 2] (w.alloc (.cells #[.int .i64 x, .int .i64 y] t)) fun e w' => e = .returned (.bool (allS [x, y])) ∧ w' = w.alloc (.cells #[.int .i64 x, .int .i64 y] t) :=
  (htLong_any _ [x, y] (by simp) _ (shows2 w x y t n hn)).mono fun _ _ h => ⟨h.1, h.2.symm⟩
theorem areSteps3 (x y z : Int) (w : World) (t n : Nat) (hn : n = w.heap.size) :
    Calls Try.prog 70 #[.slice (some ⟨n, 0, none⟩) 3 3] (w.alloc (.cells #[.int .i64 x, .int .i64 y, .int .i64 z] t)) fun e w' => e = .returned (.bool (allS [x, y, z])) ∧ w' = w.alloc (.cells #[.int .i64 x, .int .i64 y, .int .i64 z] t) :=
  (areSteps_any _ [x, y, z] (by simp) _ (shows3 w x y z t n hn)).mono fun _ _ h => ⟨h.1, h.2.symm⟩
theorem htLong3 (x y z : Int) (w : World) (t n : Nat) (hn : n = w.heap.size) :
    Calls Try.prog 84 #[.slice (some ⟨n, 0, none⟩) 3 3] (w.alloc (.cells #[.int .i64 x, .int .i64 y, .int .i64 z] t)) fun e w' => e = .returned (.bool (allS [x, y, z])) ∧ w' = w.alloc (.cells #[.int .i64 x, .int .i64 y, .int .i64 z] t) :=
  (htLong_any _ [x, y, z] (by simp) _ (shows3 w x y z t n hn)).mono fun _ _ h => ⟨h.1, h.2.symm⟩
theorem gcd_more (x d s : Nat) : Nat.gcd (x + s * d) d = Nat.gcd x d := by
  rw [Nat.gcd_add_mul_right_left]
/-- so much longer -/
theorem ln_more {x d s : Int} (hx : 0 ≤ x) (hd : 1 ≤ d) (hs : 0 ≤ s) : ln (x + s * d) d = ln x d + s * ld x d ∧ ld (x + s * d) d = ld x d := by
  obtain ⟨a, rfl⟩ := Int.eq_ofNat_of_zero_le hx
  obtain ⟨b, rfl⟩ := Int.eq_ofNat_of_zero_le (show 0 ≤ d by omega)
  obtain ⟨c, rfl⟩ := Int.eq_ofNat_of_zero_le hs
  have e : ((a : Int) + (c : Int) * (b : Int)) = ((a + c * b : Nat) : Int) := by simp
  rw [e, ln_nat, ld_nat, ln_nat, ld_nat, gcd_more]
  refine ⟨?_, rfl⟩
  obtain ⟨k, hk⟩ := Nat.gcd_dvd_right a b
  have hg : 0 < Nat.gcd a b := Nat.gcd_pos_of_pos_right _ (by omega)
  have e2 : b / Nat.gcd a b = k := by
    conv => lhs; lhs; rw [hk]
    exact Nat.mul_div_cancel_left _ hg
  have e3 : a + c * b = a + Nat.gcd a b * (c * k) := by
    conv => lhs; rw [hk]
    grind
  rw [e2, e3, Nat.add_mul_div_left _ _ hg]
  push_cast
  rfl
theorem lnd_bd {x d : Int} (hx : 0 ≤ x) (hd : 1 ≤ d) : (0 ≤ ln x d ∧ ln x d ≤ x) ∧ 1 ≤ ld x d ∧ ld x d ≤ d := by
  obtain ⟨a, rfl⟩ := Int.eq_ofNat_of_zero_le hx
  obtain ⟨b, rfl⟩ := Int.eq_ofNat_of_zero_le (show 0 ≤ d by omega)
  rw [ln_nat, ld_nat]
  have hg : 0 < Nat.gcd a b := Nat.gcd_pos_of_pos_right _ (by omega)
  have h1 := Nat.div_le_self a (Nat.gcd a b)
  have h2 := Nat.div_le_self b (Nat.gcd a b)
  have h3 : 0 < b / Nat.gcd a b := Nat.div_pos (Nat.gcd_le_right _ (by omega)) hg
  generalize a / Nat.gcd a b = u at *
  generalize b / Nat.gcd a b = v at *
  omega
def okTowerByShadow (s h t : Int) : Bool := (okSt s) && (allS [h, t])
def okTowerByMirror (s h t : Int) : Bool := (okSt s) && (allS [h, t])
def okTreeByStaff (a s n f : Int) : Bool := (okSt a) && (okSt s) && (decide (a < s)) && (allS [n, f])
def okStaffForTree (a t n f : Int) : Bool := (okSt a) && (allS [t, n, f]) && (decide (a < t))
def okWellDepth (a s i : Int) : Bool := (okSt s) && (allS [a, i])
def okRiverWide (a b c : Int) : Bool := (allS [a, b, c])
def okSecondStep (s a f h : Int) : Bool := (okSt s) && (allS [a, f, h]) && (decide (s < h))
end Go.Proofs.Ytahcfjpplkemdaa

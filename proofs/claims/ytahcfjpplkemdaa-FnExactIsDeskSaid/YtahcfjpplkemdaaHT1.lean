/- Contracts of chapter 8: staffs, lists of steps, triangles that are alike, lengths. -/
import Derived.Test.YtahcfjpplkemdaaWK1
import Derived.Test.YtahcfjpplkemdaaS1
import Derived.Test.YtahcfjpplkemdaaR1
import Derived.OwnWalk
import Derived.ChangeKeysEq
import Derived.Deep.RegionHeld3
namespace Go.Proofs.Ytahcfjpplkemdaa
open Go.RowKit
set_option linter.unusedVariables false
set_option linter.unusedSimpArgs false

theorem addr_spot {w : World} {a : Addr} {x : Value} (h : w.cell? a = some x) : a.spot = none ∧ a.block < w.heap.size := by
  refine ⟨?_, World.block_lt_of_cell? w _ h⟩
  obtain ⟨b, off, spot⟩ := a
  simp only [World.cell?] at h
  cases spot with
  | none => rfl
  | some x => exfalso; split at h <;> simp at h
def okSt (n : Int) : Bool := within n 1 100
def okS (n : Int) : Bool := within n 1 2000
theorem okSt_true {n : Int} (h : okSt n = true) : 1 ≤ n ∧ n ≤ 100 := within_true h
theorem okS_true {n : Int} (h : okS n = true) : 1 ≤ n ∧ n ≤ 2000 := within_true h
/-- the first j numbers of xs are steps -/
def allS (xs : List Int) : Bool := xs.all okS
theorem allS_take {xs : List Int} {j : Nat} (hj : j < xs.length) (h : allS (xs.take j) = true) (h2 : okS (xs.getD j 0) = true) : allS (xs.take (j + 1)) = true := by
  unfold allS at *
  rw [List.take_add_one, List.all_append, h, Bool.true_and]
  simp [List.getD, hj] at h2 ⊢
  exact h2
theorem allS_no {xs : List Int} {j : Nat} (hj : j < xs.length) (h2 : okS (xs.getD j 0) = false) : allS xs = false := by
  unfold allS
  rw [List.all_eq_false]
  refine ⟨xs.getD j 0, ?_, by rw [h2]; simp⟩
  simp [List.getD, hj]
theorem allS_end {xs : List Int} (h : allS (xs.take xs.length) = true) : allS xs = true := by rwa [List.take_length] at h
/-- xs are the numbers that v shows -/
def Shows (w : World) (v : Value) (xs : List Int) : Prop :=
  ∃ b off cap, v = .slice (some ⟨b, off, none⟩) xs.length cap ∧ ∀ i, i < xs.length → w.cell? ⟨b, off + i, none⟩ = some (.int .i64 (xs.getD i 0))
set_option maxHeartbeats 400000 in
theorem isStaff_any (n : Int) (w : World) :
    Calls Try.prog 69 #[.int .i64 n] w fun e w' => e = .returned (.bool (okSt n)) ∧ w = w' := by
  go_enter Try.func69, Try.ntmps69
  go_wp2_with (go_at_call 58; refine (isWithin_any _ _ _ _).mono ?_; rintro e w' ⟨rfl, rfl⟩)
  go_ret
  exact ⟨rfl, rfl⟩
set_option maxHeartbeats 400000 in
theorem htStaff_any (n : Int) (w : World) :
    Calls Try.prog 83 #[.int .i64 n] w fun e w' => e = .returned (.bool (okSt n)) ∧ w = w' := by
  go_enter Try.func83, Try.ntmps83
  go_wp2_with (go_at_call 54; refine (l1In_any _ _ _ _).mono ?_; rintro e w' ⟨rfl, rfl⟩)
  go_ret
  exact ⟨rfl, rfl⟩
set_option maxHeartbeats 800000 in
theorem areSteps_any (v : Value) (xs : List Int) (hl : xs.length ≤ 100) (w : World) (hv : Shows w v xs) :
    Calls Try.prog 70 #[v] w fun e w' => e = .returned (.bool (allS xs)) ∧ w = w' := by
  obtain ⟨b, off, cap, rfl, hc⟩ := hv
  have HC := Lib.hid hc
  clear hc
  generalize hL : xs.length = n at *
  have HL := Lib.hid hL
  clear hL
  go_enter Try.func70, Try.ntmps70
  go_wp2
  go_loopw [7] (fun i wr => ∃ j : Nat, j ≤ n ∧ i = .int .i64 (j : Int) ∧ wr = w ∧ allS (xs.take j) = true) (fun i _ => n - (intOf i).toNat)
  case atStart => exact ⟨0, Nat.zero_le _, rfl, rfl, by simp [allS]⟩
  case round =>
    obtain ⟨j, hj, rfl, rfl, ha⟩ := hrel
    have HA := Lib.hid ha
    clear ha
    by_cases hlt : j < n
    · have hlt' : (j : Int) < (n : Int) := by omega
      have c1 := HC.out j hlt
      cases hk : okS (xs.getD j 0)
      · have HN := Lib.hid (allS_no (by rw [HL.out]; exact hlt) hk)
        have HK := Lib.hid (show within (xs.getD j 0) 1 2000 = false from hk)
        clear hk
        generalize xs.getD j 0 = x at *
        go_wp2_with (go_at_call 58; refine (isWithin_any _ _ _ _).mono ?_; rintro e w' ⟨rfl, rfl⟩; rw [HK.out])
        go_ret
        exact ⟨by rw [HN.out]; rfl, rfl⟩
      · have HN := Lib.hid (allS_take (by rw [HL.out]; exact hlt) HA.out hk)
        have HK := Lib.hid (show within (xs.getD j 0) 1 2000 = true from hk)
        clear hk
        generalize xs.getD j 0 = x at *
        go_wp2_with (go_at_call 58; refine (isWithin_any _ _ _ _).mono ?_; rintro e w' ⟨rfl, rfl⟩; rw [HK.out])
        go_roundw
        case rel => exact ⟨j + 1, by omega, by first | go_num | trivial, by first | rfl | trivial, HN.out⟩
        case measure => simp only [intOf]; omega
    · obtain rfl : j = n := by omega
      have HE := Lib.hid (allS_end (by rw [HL.out]; exact HA.out))
      go_wp2
      go_ret
      exact ⟨by rw [HE.out]; rfl, rfl⟩
set_option maxHeartbeats 800000 in
theorem l1All_steps (v : Value) (xs : List Int) (hl : xs.length ≤ 100) (w : World) (hv : Shows w v xs) :
    Calls Try.prog 94 #[v, .int .i64 1, .int .i64 2000] w fun e w' => e = .returned (.bool (allS xs)) ∧ w = w' := by
  obtain ⟨b, off, cap, rfl, hc⟩ := hv
  have HC := Lib.hid hc
  clear hc
  generalize hL : xs.length = n at *
  have HL := Lib.hid hL
  clear hL
  go_enter Try.func94, Try.ntmps94
  go_wp2
  go_loopw [11] (fun i wr => ∃ j : Nat, j ≤ n ∧ i = .int .i64 (j : Int) ∧ wr = w ∧ allS (xs.take j) = true) (fun i _ => n - (intOf i).toNat)
  case atStart => exact ⟨0, Nat.zero_le _, rfl, rfl, by simp [allS]⟩
  case round =>
    obtain ⟨j, hj, rfl, rfl, ha⟩ := hrel
    have HA := Lib.hid ha
    clear ha
    by_cases hlt : j < n
    · have hlt' : (j : Int) < (n : Int) := by omega
      have c1 := HC.out j hlt
      cases hk : okS (xs.getD j 0)
      · have HN := Lib.hid (allS_no (by rw [HL.out]; exact hlt) hk)
        have HK := Lib.hid (show within (xs.getD j 0) 1 2000 = false from hk)
        clear hk
        generalize xs.getD j 0 = x at *
        go_wp2_with (go_at_call 54; refine (l1In_any _ _ _ _).mono ?_; rintro e w' ⟨rfl, rfl⟩; rw [HK.out])
        go_ret
        exact ⟨by rw [HN.out]; rfl, rfl⟩
      · have HN := Lib.hid (allS_take (by rw [HL.out]; exact hlt) HA.out hk)
        have HK := Lib.hid (show within (xs.getD j 0) 1 2000 = true from hk)
        clear hk
        generalize xs.getD j 0 = x at *
        go_wp2_with (go_at_call 54; refine (l1In_any _ _ _ _).mono ?_; rintro e w' ⟨rfl, rfl⟩; rw [HK.out])
        go_roundw
        case rel => exact ⟨j + 1, by omega, by first | go_num | trivial, by first | rfl | trivial, HN.out⟩
        case measure => simp only [intOf]; omega
    · obtain rfl : j = n := by omega
      have HE := Lib.hid (allS_end (by rw [HL.out]; exact HA.out))
      go_wp2
      go_ret
      exact ⟨by rw [HE.out]; rfl, rfl⟩
theorem htLong_any (v : Value) (xs : List Int) (hl : xs.length ≤ 100) (w : World) (hv : Shows w v xs) :
    Calls Try.prog 84 #[v] w fun e w' => e = .returned (.bool (allS xs)) ∧ w = w' := by
  have HV := Lib.hid hv
  obtain ⟨b, off, cap, rfl, hc⟩ := hv
  clear hc
  go_enter Try.func84, Try.ntmps84
  go_wp2_with (go_at_call 94; refine (l1All_steps _ xs hl _ HV.out).mono ?_; rintro e w' ⟨rfl, rfl⟩)
  go_ret
  exact ⟨rfl, rfl⟩
end Go.Proofs.Ytahcfjpplkemdaa

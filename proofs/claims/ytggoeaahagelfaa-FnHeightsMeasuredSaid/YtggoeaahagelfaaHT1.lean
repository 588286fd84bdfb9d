/- Contracts of chapter 8: staffs, lists of steps, triangles that are alike, lengths. -/
import Derived.Test.YtggoeaahagelfaaS1
import Derived.Test.YtggoeaahagelfaaR1
import Derived.OwnWalk
import Derived.ChangeKeysEq
import Derived.Deep.RegionHeld3
namespace Go.Proofs.Ytggoeaahagelfaa
open Go.RowKit
set_option linter.unusedVariables false
set_option linter.unusedSimpArgs false
theorem frozen_after {u v : World} (hb : Below u.heap.size u v) {n o : Nat} {x : Bool} (hn : n < u.heap.size) (hu : u.frozen? ⟨n, o, none⟩ = x) : v.frozen? ⟨n, o, none⟩ = x := by
  rw [(bcell hb).2 _ _ hn]; exact hu

def Z (ok : Bool) (n : Int) : Int := if ok then n else 0
theorem addr_spot {w : World} {a : Addr} {x : Value} (h : w.cell? a = some x) : a.spot = none ∧ a.block < w.heap.size := by
  refine ⟨?_, World.block_lt_of_cell? w _ h⟩
  obtain ⟨b, off, spot⟩ := a
  simp only [World.cell?] at h
  cases spot with
  | none => rfl
  | some x => exfalso; split at h <;> simp at h
def okSt (n : Int) : Bool := within n 1 100
def okS (n : Int) : Bool := within n 1 2000
theorem okSt_true {n : Int} (h : okSt n = true) : 1 ≤ n ∧ n ≤ 100 := within_true h
theorem okS_true {n : Int} (h : okS n = true) : 1 ≤ n ∧ n ≤ 2000 := within_true h
/-- the first j numbers of xs are steps -/
def allS (xs : List Int) : Bool := xs.all okS
theorem allS_take {xs : List Int} {j : Nat} (hj : j < xs.length) (h : allS (xs.take j) = true) (h2 : okS (xs.getD j 0) = true) : allS (xs.take (j + 1)) = true := by
  unfold allS at *
  rw [List.take_add_one, List.all_append, h, Bool.true_and]
  simp [List.getD, hj] at h2 ⊢
  exact h2
theorem allS_no {xs : List Int} {j : Nat} (hj : j < xs.length) (h2 : okS (xs.getD j 0) = false) : allS xs = false := by
  unfold allS
  rw [List.all_eq_false]
  refine ⟨xs.getD j 0, ?_, by rw [h2]; simp⟩
  simp [List.getD, hj]
theorem allS_end {xs : List Int} (h : allS (xs.take xs.length) = true) : allS xs = true := by rwa [List.take_length] at h
/-- xs are the numbers that v shows -/
def Shows (w : World) (v : Value) (xs : List Int) : Prop :=
  ∃ b off cap, v = .slice (some ⟨b, off, none⟩) xs.length cap ∧ ∀ i, i < xs.length → w.cell? ⟨b, off + i, none⟩ = some (.int .i64 (xs.getD i 0))
set_option maxHeartbeats 400000 in
theorem isStaff_any (n : Int) (w : World) :
    Calls Try.prog 31 #[.int .i64 n] w fun e w' => e = .returned (.bool (okSt n)) ∧ w = w' := by
  go_enter Try.func31, Try.ntmps31
  go_wp2_with (go_at_call 43; refine (isWithin_any _ _ _ _).mono ?_; rintro e w' ⟨rfl, rfl⟩)
  go_ret
  exact ⟨rfl, rfl⟩
set_option maxHeartbeats 400000 in
theorem htStaff_any (n : Int) (w : World) :
    Calls Try.prog 36 #[.int .i64 n] w fun e w' => e = .returned (.bool (okSt n)) ∧ w = w' := by
  go_enter Try.func36, Try.ntmps36
  go_wp2_with (go_at_call 46; refine (l1In_any _ _ _ _).mono ?_; rintro e w' ⟨rfl, rfl⟩)
  go_ret
  exact ⟨rfl, rfl⟩
set_option maxHeartbeats 800000 in
theorem areSteps_any (v : Value) (xs : List Int) (hl : xs.length ≤ 100) (w : World) (hv : Shows w v xs) :
    Calls Try.prog 32 #[v] w fun e w' => e = .returned (.bool (allS xs)) ∧ w = w' := by
  obtain ⟨b, off, cap, rfl, hc⟩ := hv
  have HC := Lib.hid hc
  clear hc
  generalize hL : xs.length = n at *
  have HL := Lib.hid hL
  clear hL
  go_enter Try.func32, Try.ntmps32
  go_wp2
  go_loopw [7] (fun i wr => ∃ j : Nat, j ≤ n ∧ i = .int .i64 (j : Int) ∧ wr = w ∧ allS (xs.take j) = true) (fun i _ => n - (intOf i).toNat)
  case atStart => exact ⟨0, Nat.zero_le _, rfl, rfl, by simp [allS]⟩
  case round =>
    obtain ⟨j, hj, rfl, rfl, ha⟩ := hrel
    have HA := Lib.hid ha
    clear ha
    by_cases hlt : j < n
    · have hlt' : (j : Int) < (n : Int) := by omega
      have c1 := HC.out j hlt
      cases hk : okS (xs.getD j 0)
      · have HN := Lib.hid (allS_no (by rw [HL.out]; exact hlt) hk)
        have HK := Lib.hid (show within (xs.getD j 0) 1 2000 = false from hk)
        clear hk
        generalize xs.getD j 0 = x at *
        go_wp2_with (go_at_call 43; refine (isWithin_any _ _ _ _).mono ?_; rintro e w' ⟨rfl, rfl⟩; rw [HK.out])
        go_ret
        exact ⟨by rw [HN.out]; rfl, rfl⟩
      · have HN := Lib.hid (allS_take (by rw [HL.out]; exact hlt) HA.out hk)
        have HK := Lib.hid (show within (xs.getD j 0) 1 2000 = true from hk)
        clear hk
        generalize xs.getD j 0 = x at *
        go_wp2_with (go_at_call 43; refine (isWithin_any _ _ _ _).mono ?_; rintro e w' ⟨rfl, rfl⟩; rw [HK.out])
        go_roundw
        case rel => exact ⟨j + 1, by omega, by first | go_num | trivial, by first | rfl | trivial, HN.out⟩
        case measure => simp only [intOf]; omega
    · obtain rfl : j = n := by omega
      have HE := Lib.hid (allS_end (by rw [HL.out]; exact HA.out))
      go_wp2
      go_ret
      exact ⟨by rw [HE.out]; rfl, rfl⟩
set_option maxHeartbeats 800000 in
theorem l1All_steps (v : Value) (xs : List Int) (hl : xs.length ≤ 100) (w : World) (hv : Shows w v xs) :
    Calls Try.prog 47 #[v, .int .i64 1, .int .i64 2000] w fun e w' => e = .returned (.bool (allS xs)) ∧ w = w' := by
  obtain ⟨b, off, cap, rfl, hc⟩ := hv
  have HC := Lib.hid hc
  clear hc
  generalize hL : xs.length = n at *
  have HL := Lib.hid hL
  clear hL
  go_enter Try.func47, Try.ntmps47
  go_wp2
  go_loopw [11] (fun i wr => ∃ j : Nat, j ≤ n ∧ i = .int .i64 (j : Int) ∧ wr = w ∧ allS (xs.take j) = true) (fun i _ => n - (intOf i).toNat)
  case atStart => exact ⟨0, Nat.zero_le _, rfl, rfl, by simp [allS]⟩
  case round =>
    obtain ⟨j, hj, rfl, rfl, ha⟩ := hrel
    have HA := Lib.hid ha
    clear ha
    by_cases hlt : j < n
    · have hlt' : (j : Int) < (n : Int) := by omega
      have c1 := HC.out j hlt
      cases hk : okS (xs.getD j 0)
      · have HN := Lib.hid (allS_no (by rw [HL.out]; exact hlt) hk)
        have HK := Lib.hid (show within (xs.getD j 0) 1 2000 = false from hk)
        clear hk
        generalize xs.getD j 0 = x at *
        go_wp2_with (go_at_call 46; refine (l1In_any _ _ _ _).mono ?_; rintro e w' ⟨rfl, rfl⟩; rw [HK.out])
        go_ret
        exact ⟨by rw [HN.out]; rfl, rfl⟩
      · have HN := Lib.hid (allS_take (by rw [HL.out]; exact hlt) HA.out hk)
        have HK := Lib.hid (show within (xs.getD j 0) 1 2000 = true from hk)
        clear hk
        generalize xs.getD j 0 = x at *
        go_wp2_with (go_at_call 46; refine (l1In_any _ _ _ _).mono ?_; rintro e w' ⟨rfl, rfl⟩; rw [HK.out])
        go_roundw
        case rel => exact ⟨j + 1, by omega, by first | go_num | trivial, by first | rfl | trivial, HN.out⟩
        case measure => simp only [intOf]; omega
    · obtain rfl : j = n := by omega
      have HE := Lib.hid (allS_end (by rw [HL.out]; exact HA.out))
      go_wp2
      go_ret
      exact ⟨by rw [HE.out]; rfl, rfl⟩
theorem htLong_any (v : Value) (xs : List Int) (hl : xs.length ≤ 100) (w : World) (hv : Shows w v xs) :
    Calls Try.prog 37 #[v] w fun e w' => e = .returned (.bool (allS xs)) ∧ w = w' := by
  have HV := Lib.hid hv
  obtain ⟨b, off, cap, rfl, hc⟩ := hv
  clear hc
  go_enter Try.func37, Try.ntmps37
  go_wp2_with (go_at_call 47; refine (l1All_steps _ xs hl _ HV.out).mono ?_; rintro e w' ⟨rfl, rfl⟩)
  go_ret
  exact ⟨rfl, rfl⟩
set_option maxHeartbeats 400000 in
theorem likeTriangles_any (d : Int) (w : World) :
    Calls Try.prog 33 #[.int .i64 d] w fun e w' => e = .returned (.func (Fn.func 44) #[] #[.pointer (some ⟨w.heap.size, 0, none⟩)]) ∧ (w'.cell? ⟨w.heap.size, 0, none⟩ = some (.int .i64 d) ∧ w.heap.size < w'.heap.size) ∧ Below w.heap.size w w' := by
  have hmf : ∀ (fn : Fn) (first cap : Array Value) (w : World), (Instr.makeFunc fn first cap).run Try.prog w = .ok (.func fn first cap) w := fun _ _ _ _ => rfl
  go_enter Try.func33, Try.ntmps33
  go_wp2
  go_ret
  exact ⟨rfl, ⟨by simp [go_sem], by simp⟩, (by repeat (first | exact Below.refl _ _ | refine bl_alloc ?_ _ | refine bl_drewN ?_ _ | refine bl_trans (by assumption) ?_ | refine bl_set ?_ (by first | omega | (simp; done) | (simp; omega)) _))⟩
set_option maxHeartbeats 800000 in
/-- P j: the product of the first j parts -/
theorem parts_any (v : Value) (xs : List Int) (P : Nat → Int) (d : Int) (p : Addr) (hl : xs.length ≤ 100) (P0 : P 0 = 1) (PS : ∀ j, j < xs.length → P (j + 1) = P j * xs.getD j 0) (PB : ∀ j, j ≤ xs.length → 0 ≤ P j ∧ P j ≤ 1000000000000)
    (d1 : 1 ≤ d) (d2 : d ≤ 1000000000000) (w : World) (hv : Shows w v xs) (hp : w.cell? p = some (.int .i64 d)) :
    Calls Try.prog 44 #[v, .pointer (some p)] w fun e w' => e = .returned (.agg #[.int .i64 (ln (P xs.length) d), .int .i64 (ld (P xs.length) d)]) ∧ Below w.heap.size w w' := by
  obtain ⟨b, off, cap, rfl, hc⟩ := hv
  have HC := Lib.hid hc
  have HS := Lib.hid PS
  have HB := Lib.hid PB
  have H0 := Lib.hid P0
  clear hc PS PB P0
  generalize hL : xs.length = n at *
  clear hL
  have HT := fun W => Lib.hid (toldFraction_any (P n) d (HB.out n (Nat.le_refl _)).1 (by have := (HB.out n (Nat.le_refl _)).2; omega) d1 (by omega) W)
  obtain ⟨pb, po, ps⟩ := p
  obtain rfl : ps = none := (addr_spot hp).1
  have hpb : pb < w.heap.size := (addr_spot hp).2
  go_enter Try.func44, Try.ntmps44
  go_wp2
  go_loopw [4, 12] (fun m i wr => ∃ j : Nat, j ≤ n ∧ m = .int .i64 (P j) ∧ i = .int .i64 (j : Int) ∧ wr = w.alloc (.cells #[.int .i64 0, .int .i64 0] 42)) (fun _ i _ => n - (intOf i).toNat)
  case atStart => exact ⟨0, Nat.zero_le _, by rw [H0.out], rfl, rfl⟩
  case round =>
    obtain ⟨j, hj, rfl, rfl, rfl⟩ := hrel
    by_cases hlt : j < n
    · have hlt' : (j : Int) < (n : Int) := by omega
      have c0 := HC.out j hlt
      have hb : b < w.heap.size := (addr_spot c0).2
      have c1 := cell_after (bl_alloc (Below.refl w.heap.size w) (.cells #[.int .i64 0, .int .i64 0] 42)) hb c0
      have e1 := HS.out j hlt
      obtain ⟨e2, e3⟩ := HB.out (j + 1) (by omega)
      have HQ := Lib.hid (show P (j + 1) = P (j + 1) from rfl)
      generalize hq : P (j + 1) = q at *
      have hq1 := Lib.hid hq
      clear hq HQ
      generalize xs.getD j 0 = x at *
      generalize hp1 : P j = p1 at *
      clear hp1
      subst e1
      go_wp2
      go_roundw
      case rel => exact ⟨j + 1, by omega, by rw [hq1.out], by first | go_num | trivial, by first | rfl | trivial⟩
      case measure => simp only [intOf]; omega
    · obtain rfl : j = n := by omega
      have cp := cell_after (bl_alloc (Below.refl w.heap.size w) (.cells #[.int .i64 0, .int .i64 0] 42)) hpb hp
      go_wp2_with fail
      refine ((HT _).out).mono ?_
      rintro e w' ⟨rfl, m, rfl⟩
      go_wp2
      refine bodyPost_ret (v := .agg #[.int .i64 (ln (P j) d), .int .i64 (ld (P j) d)]) (by simp [results, Try.results44, go_sem, *]) rfl ⟨rfl, (by repeat (first | exact Below.refl _ _ | refine bl_alloc ?_ _ | refine bl_drewN ?_ _ | refine bl_trans (by assumption) ?_ | refine bl_set ?_ (by first | omega | (simp; done) | (simp; omega)) _))⟩
end Go.Proofs.Ytggoeaahagelfaa

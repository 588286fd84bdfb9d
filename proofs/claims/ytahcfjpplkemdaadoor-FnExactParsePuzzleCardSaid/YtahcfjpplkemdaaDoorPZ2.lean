/- Clues: which are clues; the door that recovers. -/
import Derived.Test.YtahcfjpplkemdaaDoorPZ0
import Derived.Test.YtahcfjpplkemdaaDoorPZ1
import Derived.Tactics
import Derived.Tactics2
import Derived.Defers
import Derived.Recover
import Derived.Laws.Pointers
import Derived.WalkSmall
namespace Go.Proofs.YtahcfjpplkemdaaDoor
open Go.RowKit
set_option linter.unusedVariables false
set_option linter.unusedSimpArgs false
set_option maxHeartbeats 800000 in
theorem throw_ok (k a b : Int) (h : okK k a b = true) (w : World) :
    Calls Tryd.prog 47 #[.agg #[.int .i64 k, .int .i64 a, .int .i64 b]] w fun e w' => e = .returned (.tuple #[]) ∧ Below w.heap.size w w' := by
  rcases okK_kind h with rfl | rfl | rfl | rfl | rfl | rfl
  all_goals
    simp [okK] at h
    obtain ⟨h1, h2⟩ := h
    go_enter Tryd.func47, Tryd.ntmps47
    go_wp2_with (go_at_call 45; refine (isWithin_any _ _ _ _).mono ?_; rintro e w' ⟨rfl, rfl⟩)
    go_end0
    exact ⟨rfl, (by repeat (first | exact Below.refl _ _ | refine bl_alloc ?_ _ | refine bl_drewN ?_ _ | refine bl_trans (by assumption) ?_ | refine bl_set ?_ (by first | omega | (simp; done) | (simp; omega)) _))⟩
theorem okK_bad {k a b : Int} (h : okK k a b = false) : (¬ k = 0 ∧ ¬ k = 5 ∧ ¬ k = 1 ∧ ¬ k = 2 ∧ ¬ k = 4 ∧ ¬ k = 3) ∨
    ∃ p q r : Int, ((k = 0 ∧ p = 0 ∧ q = 0 ∧ r = 200) ∨ (k = 5 ∧ p = 0 ∧ q = 0 ∧ r = 200) ∨ (k = 1 ∧ p = 0 ∧ q = 0 ∧ r = 1) ∨ (k = 2 ∧ p = 200 ∧ q = 1 ∧ r = 200) ∨ (k = 4 ∧ p = 200 ∧ q = 1 ∧ r = 200) ∨ (k = 3 ∧ p = 1 ∧ q = 0 ∧ r = 1)) ∧
      (within a 0 p = false ∨ (within a 0 p = true ∧ within b q r = false)) := by
  unfold okK at h
  have cut : ∀ x y : Bool, (x && y) = false → x = false ∨ (x = true ∧ y = false) := by intro x y; cases x <;> simp
  split at h
  · rename_i c
    rcases c with c | c
    · exact .inr ⟨0, 0, 200, by omega, cut _ _ h⟩
    · exact .inr ⟨0, 0, 200, by omega, cut _ _ h⟩
  · split at h
    · exact .inr ⟨0, 0, 1, by omega, cut _ _ h⟩
    · split at h
      · exact .inr ⟨200, 1, 200, by omega, cut _ _ h⟩
      · split at h
        · exact .inr ⟨1, 0, 1, by omega, cut _ _ h⟩
        · exact .inl (by omega)
set_option maxHeartbeats 1600000 in
theorem throw_bad (k a b : Int) (h : okK k a b = false) (w : World) :
    Calls Tryd.prog 47 #[.agg #[.int .i64 k, .int .i64 a, .int .i64 b]] w fun e w' => e = .panicked [{ v := .iface 44 (.agg #[.int .i64 k, .int .i64 a, .int .i64 b]), recovered := false }] ∧ Below w.heap.size w w' := by
  rcases okK_bad h with ⟨n1, n2, n3, n4, n5, n6⟩ | ⟨p, q, r, hk, hw⟩
  · clear h
    go_enter Tryd.func47, Tryd.ntmps47
    go_wp2
    exact ⟨rfl, rfl, (by repeat (first | exact Below.refl _ _ | refine bl_alloc ?_ _ | refine bl_drewN ?_ _ | refine bl_trans (by assumption) ?_ | refine bl_set ?_ (by first | omega | (simp; done) | (simp; omega)) _))⟩
  · clear h
    rcases hk with ⟨rfl, rfl, rfl, rfl⟩ | ⟨rfl, rfl, rfl, rfl⟩ | ⟨rfl, rfl, rfl, rfl⟩ | ⟨rfl, rfl, rfl, rfl⟩ | ⟨rfl, rfl, rfl, rfl⟩ | ⟨rfl, rfl, rfl, rfl⟩
    all_goals
      rcases hw with h1 | ⟨h1, h2⟩
      all_goals
        go_enter Tryd.func47, Tryd.ntmps47
        go_wp2_with (go_at_call 45; refine (isWithin_any _ _ _ _).mono ?_; rintro e w' ⟨rfl, rfl⟩)
        exact ⟨rfl, rfl, (by repeat (first | exact Below.refl _ _ | refine bl_alloc ?_ _ | refine bl_drewN ?_ _ | refine bl_trans (by assumption) ?_ | refine bl_set ?_ (by first | omega | (simp; done) | (simp; omega)) _))⟩
theorem as_clue (v : Value) (w : World) : (Instr.typeAssert (.iface 44 v) 20 44 true).run Tryd.prog w = .ok (.tuple #[v, .bool true]) w := by kernel_rfl
theorem as_none (w : World) : (Instr.typeAssert .nilIface 20 44 true).run Tryd.prog w = .ok (.tuple #[.agg #[.int .i64 0, .int .i64 0, .int .i64 0], .bool false]) w := by kernel_rfl
set_option maxRecDepth 10000 in
theorem catch_bad (B : Nat) (x : Bool) (k a b : Int) (w : World) (hp : B < w.heap.size) (hc : w.cell? ⟨B, 0, none⟩ = some (.bool x)) (hz : w.frozen? ⟨B, 0, none⟩ = false) :
    CallsD Tryd.prog 46 #[.pointer (some ⟨B, 0, none⟩)] (.panicking [{ v := .iface 44 (.agg #[.int .i64 k, .int .i64 a, .int .i64 b]), recovered := false }]) w fun e u' w' =>
      e = .returned (.tuple #[]) ∧ u' = .panicking [{ v := .iface 44 (.agg #[.int .i64 k, .int .i64 a, .int .i64 b]), recovered := true }] ∧ w' = (w.alloc (.cells #[.int .i64 k, .int .i64 a, .int .i64 b] 44)).setCell ⟨B, 0, none⟩ (.bool false) := by
  have hc2 : (w.alloc (.cells #[.int .i64 k, .int .i64 a, .int .i64 b] 44)).cell? ⟨B, 0, none⟩ = some (.bool x) := by rw [(bcell (bl_alloc (Below.refl _ w) _)).1 _ _ hp]; exact hc
  have hz2 : (w.alloc (.cells #[.int .i64 k, .int .i64 a, .int .i64 b] 44)).frozen? ⟨B, 0, none⟩ = false := by rw [(bcell (bl_alloc (Below.refl _ w) _)).2 _ _ hp]; exact hz
  refine callsD_of_wpS Tryd.func46 rfl fun c₀ cs hu => ?_
  apply wpS_seq
  apply wpS_region
  simp [wpOpsS, go_sem, recoverD, hu, Tryd.ntmps46, Exit.thenS, as_clue]
  apply wpS_region
  simp [wpOpsS, go_sem, hc2, hz2, bodyPostS, results, Tryd.results46]
set_option maxRecDepth 10000 in
theorem catch_idle (B : Nat) (x : Bool) (w : World) (hp : B < w.heap.size) (hc : w.cell? ⟨B, 0, none⟩ = some (.bool x)) (hz : w.frozen? ⟨B, 0, none⟩ = false) :
    CallsD Tryd.prog 46 #[.pointer (some ⟨B, 0, none⟩)] .returning w fun e u' w' =>
      e = .returned (.tuple #[]) ∧ u' = .returning ∧ w' = (w.alloc (.cells #[.int .i64 0, .int .i64 0, .int .i64 0] 44)).setCell ⟨B, 0, none⟩ (.bool true) := by
  have hc2 : (w.alloc (.cells #[.int .i64 0, .int .i64 0, .int .i64 0] 44)).cell? ⟨B, 0, none⟩ = some (.bool x) := by rw [(bcell (bl_alloc (Below.refl _ w) _)).1 _ _ hp]; exact hc
  have hz2 : (w.alloc (.cells #[.int .i64 0, .int .i64 0, .int .i64 0] 44)).frozen? ⟨B, 0, none⟩ = false := by rw [(bcell (bl_alloc (Below.refl _ w) _)).2 _ _ hp]; exact hz
  refine callsD_of_wpS Tryd.func46 rfl fun c₀ cs hu => ?_
  apply wpS_seq
  apply wpS_region
  simp [wpOpsS, go_sem, recoverD, hu, Tryd.ntmps46, Exit.thenS, as_none]
  apply wpS_region
  simp [wpOpsS, go_sem, hc2, hz2, bodyPostS, results, Tryd.results46]
  cases c₀
  simp_all
theorem door_cell {w : World} {B : Nat} {x v : Value} {o : Obj} (h : B < w.heap.size) (hc : w.cell? ⟨B, 0, none⟩ = some x) : ((w.alloc o).setCell ⟨B, 0, none⟩ v).cell? ⟨B, 0, none⟩ = some v := by
  have : (w.alloc o).cell? ⟨B, 0, none⟩ = some x := by rw [(bcell (bl_alloc (Below.refl _ w) _)).1 _ _ h]; exact hc
  simp [go_sem, this]
set_option maxHeartbeats 800000 in
theorem areClues_any (v : Value) (n : Nat) (f : Nat → Int) (w : World) (h : PClu w v n f) :
    Calls Tryd.prog 33 #[v] w fun e w' => e = .returned (.bool (okCs n f)) ∧ Below w.heap.size w w' := by
  have hmf : ∀ (fn : Fn) (first cap : Array Value) (w : World), (Instr.makeFunc fn first cap).run Tryd.prog w = .ok (.func fn first cap) w := fun _ _ _ _ => rfl
  have hl := h.len_le
  obtain ⟨a, c, hv⟩ := h.shape
  have HH := Lib.hid h
  clear h
  subst hv
  have HB0 := Lib.hid (show Below w.heap.size w (w.alloc (.cells #[.bool false] 4)) from (by repeat (first | exact Below.refl _ _ | refine bl_alloc ?_ _ | refine bl_drewN ?_ _ | refine bl_trans (by assumption) ?_ | refine bl_set ?_ (by first | omega | (simp; done) | (simp; omega)) _)))
  go_enter_defers Tryd.func33, Tryd.ntmps33
  go_wp2
  go_loopw [8] (fun i wr => ∃ j : Nat, j ≤ n ∧ i = .int .i64 (j : Int) ∧ okCs j f = true ∧ wr.cell? ⟨w.heap.size, 0, none⟩ = some (.bool false) ∧ wr.frozen? ⟨w.heap.size, 0, none⟩ = false ∧ w.heap.size < wr.heap.size ∧ Below w.heap.size w wr) (fun i _ => n - (intOf i).toNat)
  case atStart => exact ⟨0, Nat.zero_le _, rfl, rfl, by simp, by simp [go_sem], by simp, HB0.out⟩
  case round =>
    obtain ⟨j, hj, rfl, hok, hcell, hfr, hsz, hW⟩ := hrel
    have HK := Lib.hid hok
    have HW := Lib.hid hW
    clear hok hW
    by_cases hlt : j < n
    · obtain ⟨b, off, cap, hv, hb, g1⟩ := (HH.out.keep HW.out).some_ (by omega)
      simp only [Value.slice.injEq, true_and] at hv
      obtain ⟨rfl, rfl⟩ := hv
      obtain ⟨p0, p1, p2⟩ := g1 j hlt
      have hlt' : (j : Int) < (n : Int) := by omega
      clear g1
      cases hkk : okK (f (j * 3)) (f (j * 3 + 1)) (f (j * 3 + 2))
      · have HKK := Lib.hid hkk
        clear hkk
        go_wp2_with fail
        refine (throw_bad _ _ _ HKK.out _).mono ?_
        rintro e w2 ⟨rfl, hb2⟩
        obtain ⟨hc2, hf2⟩ := bcell hb2
        have hz2 := bsize hb2
        (try simp only [World.size_alloc, World.size_setCell] at hz2)
        go_wp2
        have hcw : w2.cell? ⟨w.heap.size, 0, none⟩ = some (.bool false) := by rw [hc2 _ _ (by simp; omega), (bcell (bl_alloc (Below.refl _ wr) _)).1 _ _ hsz]; exact hcell
        have hfw : w2.frozen? ⟨w.heap.size, 0, none⟩ = false := by rw [hf2 _ _ (by simp; omega), (bcell (bl_alloc (Below.refl _ wr) _)).2 _ _ hsz]; exact hfr
        refine leaves_cons (f := 46) (args := #[.pointer (some ⟨w.heap.size, 0, none⟩)]) (by simp) (by simp [go_sem]) ?_
        refine (catch_bad w.heap.size false _ _ _ w2 (by omega) hcw hfw).mono ?_
        rintro e u' w'' ⟨rfl, rfl, rfl⟩
        have hB2 : Below w.heap.size w ((w2.alloc (.cells #[.int .i64 (f (j * 3)), .int .i64 (f (j * 3 + 1)), .int .i64 (f (j * 3 + 2))] 44)).setCell ⟨w.heap.size, 0, none⟩ (.bool false)) := bl_set (bl_alloc (bl_trans hb2 (bl_alloc HW.out _)) _) (Nat.le_refl _) _
        have hcs := door_cell (v := .bool false) (x := .bool false) (o := .cells #[.int .i64 (f (j * 3)), .int .i64 (f (j * 3 + 1)), .int .i64 (f (j * 3 + 2))] 44) (show w.heap.size < w2.heap.size by omega) hcw
        simp [Leaves, settle, results, Tryd.results33, go_sem, hcs]
        exact ⟨by rw [okCs_false hlt HKK.out], hB2⟩
      · have HKK := Lib.hid hkk
        clear hkk
        go_wp2_with fail
        refine (throw_ok _ _ _ HKK.out _).mono ?_
        rintro e w2 ⟨rfl, hb2⟩
        obtain ⟨hc2, hf2⟩ := bcell hb2
        have hz2 := bsize hb2
        (try simp only [World.size_alloc, World.size_setCell] at hz2)
        have hcw : w2.cell? ⟨w.heap.size, 0, none⟩ = some (.bool false) := by rw [hc2 _ _ (by simp; omega), (bcell (bl_alloc (Below.refl _ wr) _)).1 _ _ hsz]; exact hcell
        have hfw : w2.frozen? ⟨w.heap.size, 0, none⟩ = false := by rw [hf2 _ _ (by simp; omega), (bcell (bl_alloc (Below.refl _ wr) _)).2 _ _ hsz]; exact hfr
        have hB2 := Lib.hid (show Below w.heap.size w w2 from bl_trans hb2 (bl_alloc HW.out _))
        clear hc2 hf2 hb2
        go_wp2
        go_roundw
        case rel => exact ⟨j + 1, by omega, by go_num, by rw [okCs_succ, HK.out, HKK.out]; rfl, hcw, hfw, by omega, hB2.out⟩
        case measure => simp only [intOf]; omega
    · obtain rfl : j = n := by omega
      go_wp2
      have hcw : (wr.setCell ⟨w.heap.size, 0, none⟩ (.bool true)).cell? ⟨w.heap.size, 0, none⟩ = some (.bool true) := by simp [go_sem, hcell]
      have hfw : (wr.setCell ⟨w.heap.size, 0, none⟩ (.bool true)).frozen? ⟨w.heap.size, 0, none⟩ = false := by simp [go_sem, hfr]
      refine leaves_cons (f := 46) (args := #[.pointer (some ⟨w.heap.size, 0, none⟩)]) (by simp) (by simp [go_sem]) ?_
      refine (catch_idle w.heap.size true _ (by simp; omega) hcw hfw).mono ?_
      rintro e u' w'' ⟨rfl, rfl, rfl⟩
      have hcs := door_cell (v := .bool true) (x := .bool true) (o := .cells #[.int .i64 0, .int .i64 0, .int .i64 0] 44) (show w.heap.size < (wr.setCell ⟨w.heap.size, 0, none⟩ (.bool true)).heap.size by simp; omega) hcw
      simp [Leaves, settle, results, Tryd.results33, go_sem, hcs]
      exact ⟨by rw [HK.out], bl_set (bl_alloc (bl_set HW.out (Nat.le_refl _) _) _) (Nat.le_refl _) _⟩
def okP (wd : Int) (n : Nat) (f : Nat → Int) : Bool := within wd 1 12 && decide (n ≤ 6) && okCs n f
theorem okP_true {wd : Int} {n : Nat} {f : Nat → Int} (h : okP wd n f = true) : (1 ≤ wd ∧ wd ≤ 12) ∧ n ≤ 6 ∧ okCs n f = true := by
  simp only [okP, Bool.and_eq_true, decide_eq_true_eq] at h
  exact ⟨within_true h.1.1, h.1.2, h.2⟩
set_option maxHeartbeats 400000 in
theorem isHiddenSize_any (n : Int) (w : World) :
    Calls Tryd.prog 32 #[.int .i64 n] w fun e w' => e = .returned (.bool (within n 1 12)) ∧ w = w' := by
  go_enter Tryd.func32, Tryd.ntmps32
  go_wp2_with (go_at_call 45; refine (isWithin_any _ _ _ _).mono ?_; rintro e w' ⟨rfl, rfl⟩)
  go_ret
  exact ⟨rfl, rfl⟩
set_option maxHeartbeats 400000 in
theorem pzWide_any (n : Int) (w : World) :
    Calls Tryd.prog 28 #[.int .i64 n] w fun e w' => e = .returned (.bool (within n 1 12)) ∧ w = w' := by
  go_enter Tryd.func28, Tryd.ntmps28
  go_wp2_with (go_at_call 44; refine (l1In_any _ _ _ _).mono ?_; rintro e w' ⟨rfl, rfl⟩)
  go_ret
  exact ⟨rfl, rfl⟩
theorem bool_ret {x y : Bool} (h : x = true ↔ y = true) : Ending.returned (.bool x) = Ending.returned (.bool y) := by rw [Bool.eq_iff_iff.2 h]
theorem okK_out {k a b : Int} (h : within a 0 200 = false ∨ within b 0 200 = false) : okK k a b = false := by
  cases hc : okK k a b
  · rfl
  · have := okK_bd hc
    simp [within] at h
    omega
set_option maxHeartbeats 800000 in
theorem pzClue_any (k a b : Int) (w : World) :
    Calls Tryd.prog 29 #[.agg #[.int .i64 k, .int .i64 a, .int .i64 b]] w fun e w' => e = .returned (.bool (okK k a b)) ∧ Below w.heap.size w w' := by
  cases h1 : within a 0 200
  · have h := okK_out (k := k) (.inl h1) (b := b)
    go_enter Tryd.func29, Tryd.ntmps29
    go_wp2_with (go_at_call 44; refine (l1In_any _ _ _ _).mono ?_; rintro e w' ⟨rfl, rfl⟩)
    go_ret
    exact ⟨by rw [h]; rfl, (by repeat (first | exact Below.refl _ _ | refine bl_alloc ?_ _ | refine bl_drewN ?_ _ | refine bl_trans (by assumption) ?_ | refine bl_set ?_ (by first | omega | (simp; done) | (simp; omega)) _))⟩
  · cases h2 : within b 0 200
    · have h := okK_out (k := k) (a := a) (.inr h2)
      go_enter Tryd.func29, Tryd.ntmps29
      go_wp2_with (go_at_call 44; refine (l1In_any _ _ _ _).mono ?_; rintro e w' ⟨rfl, rfl⟩)
      go_ret
      exact ⟨by rw [h]; rfl, (by repeat (first | exact Below.refl _ _ | refine bl_alloc ?_ _ | refine bl_drewN ?_ _ | refine bl_trans (by assumption) ?_ | refine bl_set ?_ (by first | omega | (simp; done) | (simp; omega)) _))⟩
    · have W1 := Lib.hid (within_true h1)
      have W2 := Lib.hid (within_true h2)
      by_cases k0 : k = 0
      · subst k0
        go_enter Tryd.func29, Tryd.ntmps29
        go_wp2_with (go_at_call 44; refine (l1In_any _ _ _ _).mono ?_; rintro e w' ⟨rfl, rfl⟩)
        go_ret
        exact ⟨bool_ret (by have := W1.out; have := W2.out; simp [okK, within]; omega), (by repeat (first | exact Below.refl _ _ | refine bl_alloc ?_ _ | refine bl_drewN ?_ _ | refine bl_trans (by assumption) ?_ | refine bl_set ?_ (by first | omega | (simp; done) | (simp; omega)) _))⟩
      by_cases k5 : k = 5
      · subst k5
        go_enter Tryd.func29, Tryd.ntmps29
        go_wp2_with (go_at_call 44; refine (l1In_any _ _ _ _).mono ?_; rintro e w' ⟨rfl, rfl⟩)
        go_ret
        exact ⟨bool_ret (by have := W1.out; have := W2.out; simp [okK, within]; omega), (by repeat (first | exact Below.refl _ _ | refine bl_alloc ?_ _ | refine bl_drewN ?_ _ | refine bl_trans (by assumption) ?_ | refine bl_set ?_ (by first | omega | (simp; done) | (simp; omega)) _))⟩
      by_cases k1 : k = 1
      · subst k1
        go_enter Tryd.func29, Tryd.ntmps29
        go_wp2_with (go_at_call 44; refine (l1In_any _ _ _ _).mono ?_; rintro e w' ⟨rfl, rfl⟩)
        all_goals
          go_ret
          exact ⟨bool_ret (by have := W1.out; have := W2.out; simp [okK, within]; omega), (by repeat (first | exact Below.refl _ _ | refine bl_alloc ?_ _ | refine bl_drewN ?_ _ | refine bl_trans (by assumption) ?_ | refine bl_set ?_ (by first | omega | (simp; done) | (simp; omega)) _))⟩
      by_cases k2 : k = 2
      · subst k2
        go_enter Tryd.func29, Tryd.ntmps29
        go_wp2_with (go_at_call 44; refine (l1In_any _ _ _ _).mono ?_; rintro e w' ⟨rfl, rfl⟩)
        go_ret
        exact ⟨bool_ret (by have := W1.out; have := W2.out; simp [okK, within]; omega), (by repeat (first | exact Below.refl _ _ | refine bl_alloc ?_ _ | refine bl_drewN ?_ _ | refine bl_trans (by assumption) ?_ | refine bl_set ?_ (by first | omega | (simp; done) | (simp; omega)) _))⟩
      by_cases k4 : k = 4
      · subst k4
        go_enter Tryd.func29, Tryd.ntmps29
        go_wp2_with (go_at_call 44; refine (l1In_any _ _ _ _).mono ?_; rintro e w' ⟨rfl, rfl⟩)
        go_ret
        exact ⟨bool_ret (by have := W1.out; have := W2.out; simp [okK, within]; omega), (by repeat (first | exact Below.refl _ _ | refine bl_alloc ?_ _ | refine bl_drewN ?_ _ | refine bl_trans (by assumption) ?_ | refine bl_set ?_ (by first | omega | (simp; done) | (simp; omega)) _))⟩
      by_cases k3 : k = 3
      · subst k3
        go_enter Tryd.func29, Tryd.ntmps29
        go_wp2_with (go_at_call 44; refine (l1In_any _ _ _ _).mono ?_; rintro e w' ⟨rfl, rfl⟩)
        all_goals
          go_ret
          exact ⟨bool_ret (by have := W1.out; have := W2.out; simp [okK, within]; omega), (by repeat (first | exact Below.refl _ _ | refine bl_alloc ?_ _ | refine bl_drewN ?_ _ | refine bl_trans (by assumption) ?_ | refine bl_set ?_ (by first | omega | (simp; done) | (simp; omega)) _))⟩
      · go_enter Tryd.func29, Tryd.ntmps29
        go_wp2_with (go_at_call 44; refine (l1In_any _ _ _ _).mono ?_; rintro e w' ⟨rfl, rfl⟩)
        go_ret
        exact ⟨bool_ret (by simp [okK, k0, k1, k2, k3, k4, k5]), (by repeat (first | exact Below.refl _ _ | refine bl_alloc ?_ _ | refine bl_drewN ?_ _ | refine bl_trans (by assumption) ?_ | refine bl_set ?_ (by first | omega | (simp; done) | (simp; omega)) _))⟩
set_option maxHeartbeats 400000 in
theorem impl_IsPuzzle (wd : Int) (v : Value) (n : Nat) (f : Nat → Int) (w : World) (h : PClu w v n f) :
    Calls Tryd.prog 18 #[.agg #[.int .i64 wd, v]] w fun e w' => e = .returned (.bool (okP wd n f)) ∧ Below w.heap.size w w' := by
  have hl := h.len_le
  obtain ⟨a, c, rfl⟩ := h.shape
  have HH := Lib.hid h
  clear h
  cases h1 : within wd 1 12
  · go_enter Tryd.func18, Tryd.ntmps18
    go_wp2_with (go_at_call 32; refine (isHiddenSize_any _ _).mono ?_; rintro e w' ⟨rfl, rfl⟩)
    go_ret
    exact ⟨by simp [okP, h1], (by repeat (first | exact Below.refl _ _ | refine bl_alloc ?_ _ | refine bl_drewN ?_ _ | refine bl_trans (by assumption) ?_ | refine bl_set ?_ (by first | omega | (simp; done) | (simp; omega)) _))⟩
  · by_cases h2 : n ≤ 6
    · go_enter Tryd.func18, Tryd.ntmps18
      go_wp2_with (first | (go_at_call 32; refine (isHiddenSize_any _ _).mono ?_; rintro e w' ⟨rfl, rfl⟩) | (go_at_call 33; refine (areClues_any _ n f _ (HH.out.keep (by repeat (first | exact Below.refl _ _ | refine bl_alloc ?_ _ | refine bl_drewN ?_ _ | refine bl_trans (by assumption) ?_ | refine bl_set ?_ (by first | omega | (simp; done) | (simp; omega)) _)))).mono ?_; rintro e w2 ⟨rfl, hb2⟩))
      go_ret
      exact ⟨by simp [okP, h1, h2], (by repeat (first | exact Below.refl _ _ | refine bl_alloc ?_ _ | refine bl_drewN ?_ _ | refine bl_trans (by assumption) ?_ | refine bl_set ?_ (by first | omega | (simp; done) | (simp; omega)) _))⟩
    · go_enter Tryd.func18, Tryd.ntmps18
      go_wp2_with (go_at_call 32; refine (isHiddenSize_any _ _).mono ?_; rintro e w' ⟨rfl, rfl⟩)
      go_ret
      exact ⟨by simp [okP, h1, h2], (by repeat (first | exact Below.refl _ _ | refine bl_alloc ?_ _ | refine bl_drewN ?_ _ | refine bl_trans (by assumption) ?_ | refine bl_set ?_ (by first | omega | (simp; done) | (simp; omega)) _))⟩
set_option maxHeartbeats 800000 in
theorem pzGood_any (wd : Int) (v : Value) (n : Nat) (f : Nat → Int) (w : World) (h : PClu w v n f) :
    Calls Tryd.prog 15 #[.agg #[.int .i64 wd, v]] w fun e w' => e = .returned (.bool (okP wd n f)) ∧ Below w.heap.size w w' := by
  have hl := h.len_le
  obtain ⟨a, c, rfl⟩ := h.shape
  have HH := Lib.hid h
  clear h
  cases h1 : within wd 1 12
  · go_enter Tryd.func15, Tryd.ntmps15
    go_wp2_with (go_at_call 28; refine (pzWide_any _ _).mono ?_; rintro e w' ⟨rfl, rfl⟩)
    go_ret
    exact ⟨by simp [okP, h1], (by repeat (first | exact Below.refl _ _ | refine bl_alloc ?_ _ | refine bl_drewN ?_ _ | refine bl_trans (by assumption) ?_ | refine bl_set ?_ (by first | omega | (simp; done) | (simp; omega)) _))⟩
  · by_cases h2 : n ≤ 6
    · have HB0 := Lib.hid (show Below w.heap.size w (w.alloc (.cells #[.int .i64 wd, .slice a n c] 30)) from (by repeat (first | exact Below.refl _ _ | refine bl_alloc ?_ _ | refine bl_drewN ?_ _ | refine bl_trans (by assumption) ?_ | refine bl_set ?_ (by first | omega | (simp; done) | (simp; omega)) _)))
      go_enter Tryd.func15, Tryd.ntmps15
      go_wp2_with (go_at_call 28; refine (pzWide_any _ _).mono ?_; rintro e w' ⟨rfl, rfl⟩)
      go_loopw [18] (fun i wr => ∃ j : Nat, j ≤ n ∧ i = .int .i64 (j : Int) ∧ okCs j f = true ∧ Below w.heap.size w wr) (fun i _ => n - (intOf i).toNat)
      case atStart => exact ⟨0, Nat.zero_le _, rfl, rfl, HB0.out⟩
      case round =>
        obtain ⟨j, hj, rfl, hok, hW⟩ := hrel
        have HK := Lib.hid hok
        have HW := Lib.hid hW
        clear hok hW
        by_cases hlt : j < n
        · obtain ⟨b, off, cap, hv, hb, g1⟩ := (HH.out.keep HW.out).some_ (by omega)
          simp only [Value.slice.injEq, true_and] at hv
          obtain ⟨rfl, rfl⟩ := hv
          obtain ⟨p0, p1, p2⟩ := g1 j hlt
          have hlt' : (j : Int) < (n : Int) := by omega
          clear g1
          cases hkk : okK (f (j * 3)) (f (j * 3 + 1)) (f (j * 3 + 2))
          · have HKK := Lib.hid hkk
            clear hkk
            go_wp2_with fail
            refine (pzClue_any _ _ _ _).mono ?_
            rintro e w2 ⟨rfl, hb2⟩
            rw [HKK.out]
            go_wp2
            go_ret
            exact ⟨by simp [okP, okCs_false hlt HKK.out], bl_trans hb2 (bl_alloc HW.out _)⟩
          · have HKK := Lib.hid hkk
            clear hkk
            go_wp2_with fail
            refine (pzClue_any _ _ _ _).mono ?_
            rintro e w2 ⟨rfl, hb2⟩
            rw [HKK.out]
            have hB2 := Lib.hid (show Below w.heap.size w w2 from bl_trans hb2 (bl_alloc HW.out _))
            clear hb2
            go_wp2
            go_roundw
            case rel => exact ⟨j + 1, by omega, by go_num, by rw [okCs_succ, HK.out, HKK.out]; rfl, hB2.out⟩
            case measure => simp only [intOf]; omega
        · obtain rfl : j = n := by omega
          go_wp2
          go_ret
          exact ⟨by simp [okP, h1, h2, HK.out], HW.out⟩
    · go_enter Tryd.func15, Tryd.ntmps15
      go_wp2_with (go_at_call 28; refine (pzWide_any _ _).mono ?_; rintro e w' ⟨rfl, rfl⟩)
      go_ret
      exact ⟨by simp [okP, h1, h2], (by repeat (first | exact Below.refl _ _ | refine bl_alloc ?_ _ | refine bl_drewN ?_ _ | refine bl_trans (by assumption) ?_ | refine bl_set ?_ (by first | omega | (simp; done) | (simp; omega)) _))⟩
end Go.Proofs.YtahcfjpplkemdaaDoor

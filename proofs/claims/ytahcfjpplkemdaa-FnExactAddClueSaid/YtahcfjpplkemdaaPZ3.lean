/- What clues tell of ladders; which ladders fit. -/
import Derived.Test.YtahcfjpplkemdaaPZ2
import Derived.Test.YtahcfjpplkemdaaC2
import Derived.Test.YtahcfjpplkemdaaC3
import Derived.BigQuiet
namespace Go.Proofs.Ytahcfjpplkemdaa
open Go.RowKit
set_option linter.unusedVariables false
set_option linter.unusedSimpArgs false
set_option maxHeartbeats 400000 in
theorem oneIf_any (b : Bool) (w : World) : Calls Try.prog 76 #[.bool b] w fun e w' => e = .returned (.int .i64 (if b then 1 else 0)) ∧ w = w' := by
  cases b
  all_goals
    go_enter Try.func76, Try.ntmps76
    go_wp2
    go_ret
    exact ⟨rfl, rfl⟩
theorem CH_H {wd l r : Int} (h : okH wd l r = true) (f : Int → Int → Int) : CH f wd l r = f (l * r) (l + r) := by rw [CH, okH_L h]; rfl
theorem CP_H {wd l r : Int} (h : okH wd l r = true) (f : Int → Int → Int) : CP f wd l r = f (wd * l) (l + r) := by rw [CP, okH_L h]; rfl
set_option maxHeartbeats 800000 in
theorem clueOf_0 (a wd l r : Int) (h : okH wd l r = true) (w : World) :
    Calls Try.prog 60 #[.agg #[.int .i64 wd, .int .i64 l, .int .i64 r], .int .i64 0, .int .i64 a] w fun e w' => e = .returned (.agg #[.int .i64 0, .int .i64 (vA 0 a wd l r), .int .i64 (vB 0 a wd l r)]) ∧ Below w.heap.size w w' := by
  obtain ⟨⟨w0, w1⟩, ⟨l0, l1⟩, r0, r1⟩ := okH_bd h
  obtain ⟨f1, f2⟩ := mul_bd (a := l) (b := r) (m := 12) (by omega) (by omega) l1 r1
  go_enter Try.func60, Try.ntmps60
  go_wp2
  exact bodyPost_ret (v := .agg #[.int .i64 0, .int .i64 0, .int .i64 (l + r)]) (by simp [results, Try.results60, go_sem]) rfl ⟨by simp [vA, vB], (by repeat (first | exact Below.refl _ _ | refine bl_alloc ?_ _ | refine bl_drewN ?_ _ | refine bl_trans (by assumption) ?_ | refine bl_set ?_ (by first | omega | (simp; done) | (simp; omega)) _))⟩
set_option maxHeartbeats 800000 in
theorem clueOf_1 (a wd l r : Int) (h : okH wd l r = true) (w : World) :
    Calls Try.prog 60 #[.agg #[.int .i64 wd, .int .i64 l, .int .i64 r], .int .i64 1, .int .i64 a] w fun e w' => e = .returned (.agg #[.int .i64 1, .int .i64 (vA 1 a wd l r), .int .i64 (vB 1 a wd l r)]) ∧ Below w.heap.size w w' := by
  obtain ⟨⟨w0, w1⟩, ⟨l0, l1⟩, r0, r1⟩ := okH_bd h
  obtain ⟨f1, f2⟩ := mul_bd (a := l) (b := r) (m := 12) (by omega) (by omega) l1 r1
  by_cases hlr : r < l
  · go_enter Try.func60, Try.ntmps60
    go_wp2_with (go_at_call 76; refine (oneIf_any _ _).mono ?_; rintro e w' ⟨rfl, rfl⟩)
    exact bodyPost_ret (v := .agg #[.int .i64 1, .int .i64 0, .int .i64 1]) (by simp [results, Try.results60, go_sem]) rfl ⟨by simp [vA, vB, hlr], (by repeat (first | exact Below.refl _ _ | refine bl_alloc ?_ _ | refine bl_drewN ?_ _ | refine bl_trans (by assumption) ?_ | refine bl_set ?_ (by first | omega | (simp; done) | (simp; omega)) _))⟩
  · go_enter Try.func60, Try.ntmps60
    go_wp2_with (go_at_call 76; refine (oneIf_any _ _).mono ?_; rintro e w' ⟨rfl, rfl⟩)
    exact bodyPost_ret (v := .agg #[.int .i64 1, .int .i64 0, .int .i64 0]) (by simp [results, Try.results60, go_sem]) rfl ⟨by simp [vA, vB, hlr], (by repeat (first | exact Below.refl _ _ | refine bl_alloc ?_ _ | refine bl_drewN ?_ _ | refine bl_trans (by assumption) ?_ | refine bl_set ?_ (by first | omega | (simp; done) | (simp; omega)) _))⟩
set_option maxHeartbeats 800000 in
theorem clueOf_2 (a wd l r : Int) (h : okH wd l r = true) (w : World) :
    Calls Try.prog 60 #[.agg #[.int .i64 wd, .int .i64 l, .int .i64 r], .int .i64 2, .int .i64 a] w fun e w' => e = .returned (.agg #[.int .i64 2, .int .i64 (vA 2 a wd l r), .int .i64 (vB 2 a wd l r)]) ∧ Below w.heap.size w w' := by
  obtain ⟨⟨w0, w1⟩, ⟨l0, l1⟩, r0, r1⟩ := okH_bd h
  obtain ⟨f1, f2⟩ := mul_bd (a := l) (b := r) (m := 12) (by omega) (by omega) l1 r1
  go_enter Try.func60, Try.ntmps60
  go_wp2_with fail
  refine (impl_CrossHeight _ _ _ _).mono ?_
  rintro e w1 ⟨rfl, hbw1⟩
  obtain ⟨hcw1, hfw1⟩ := bcell hbw1
  have hzw1 := bsize hbw1
  (try simp only [World.size_alloc, World.size_setCell] at hzw1)
  have kw1_0_0 : w1.cell? ⟨w.heap.size + 1, 0, none⟩ = some (.int .i64 0) := by rw [hcw1 _ _ (by first | (simp; done) | omega | (simp; omega))]; first | assumption | (simp [go_sem]; done) | (simp [go_sem]; done) | (simp [go_sem, *]; done)
  have fw1_0_0 : w1.frozen? ⟨w.heap.size + 1, 0, none⟩ = false := by rw [hfw1 _ _ (by first | (simp; done) | omega | (simp; omega))]; first | assumption | (simp [go_sem]; done) | (simp [go_sem]; done) | (simp [go_sem, *]; done)
  have kw1_0_1 : w1.cell? ⟨w.heap.size + 1, 1, none⟩ = some (.int .i64 0) := by rw [hcw1 _ _ (by first | (simp; done) | omega | (simp; omega))]; first | assumption | (simp [go_sem]; done) | (simp [go_sem]; done) | (simp [go_sem, *]; done)
  have fw1_0_1 : w1.frozen? ⟨w.heap.size + 1, 1, none⟩ = false := by rw [hfw1 _ _ (by first | (simp; done) | omega | (simp; omega))]; first | assumption | (simp [go_sem]; done) | (simp [go_sem]; done) | (simp [go_sem, *]; done)
  have kw1_0_2 : w1.cell? ⟨w.heap.size + 1, 2, none⟩ = some (.int .i64 0) := by rw [hcw1 _ _ (by first | (simp; done) | omega | (simp; omega))]; first | assumption | (simp [go_sem]; done) | (simp [go_sem]; done) | (simp [go_sem, *]; done)
  have fw1_0_2 : w1.frozen? ⟨w.heap.size + 1, 2, none⟩ = false := by rw [hfw1 _ _ (by first | (simp; done) | omega | (simp; omega))]; first | assumption | (simp [go_sem]; done) | (simp [go_sem]; done) | (simp [go_sem, *]; done)
  have sw1_0 : w.heap.size + 1 < w1.heap.size := by first | omega | (simp at *; omega)
  have kw1_1_0 : w1.cell? ⟨w.heap.size + 1 + 1, 0, none⟩ = some (.int .i64 2) := by rw [hcw1 _ _ (by first | (simp; done) | omega | (simp; omega))]; first | assumption | (simp [go_sem]; done) | (simp [go_sem]; done) | (simp [go_sem, *]; done)
  have fw1_1_0 : w1.frozen? ⟨w.heap.size + 1 + 1, 0, none⟩ = false := by rw [hfw1 _ _ (by first | (simp; done) | omega | (simp; omega))]; first | assumption | (simp [go_sem]; done) | (simp [go_sem]; done) | (simp [go_sem, *]; done)
  have kw1_1_1 : w1.cell? ⟨w.heap.size + 1 + 1, 1, none⟩ = some (.int .i64 0) := by rw [hcw1 _ _ (by first | (simp; done) | omega | (simp; omega))]; first | assumption | (simp [go_sem]; done) | (simp [go_sem]; done) | (simp [go_sem, *]; done)
  have fw1_1_1 : w1.frozen? ⟨w.heap.size + 1 + 1, 1, none⟩ = false := by rw [hfw1 _ _ (by first | (simp; done) | omega | (simp; omega))]; first | assumption | (simp [go_sem]; done) | (simp [go_sem]; done) | (simp [go_sem, *]; done)
  have kw1_1_2 : w1.cell? ⟨w.heap.size + 1 + 1, 2, none⟩ = some (.int .i64 0) := by rw [hcw1 _ _ (by first | (simp; done) | omega | (simp; omega))]; first | assumption | (simp [go_sem]; done) | (simp [go_sem]; done) | (simp [go_sem, *]; done)
  have fw1_1_2 : w1.frozen? ⟨w.heap.size + 1 + 1, 2, none⟩ = false := by rw [hfw1 _ _ (by first | (simp; done) | omega | (simp; omega))]; first | assumption | (simp [go_sem]; done) | (simp [go_sem]; done) | (simp [go_sem, *]; done)
  have sw1_1 : w.heap.size + 1 + 1 < w1.heap.size := by first | omega | (simp at *; omega)
  have hBw1 : Below w.heap.size w w1 := (by repeat (first | exact Below.refl _ _ | refine bl_alloc ?_ _ | refine bl_drewN ?_ _ | refine bl_trans (by assumption) ?_ | refine bl_set ?_ (by first | omega | (simp; done) | (simp; omega)) _))
  have HBw1 := Lib.hid hBw1
  clear hBw1 hcw1 hfw1 hbw1
  rw [CH_H h, CH_H h]
  go_wp2
  exact bodyPost_ret (v := .agg #[.int .i64 2, .int .i64 (ln (l * r) (l + r)), .int .i64 (ld (l * r) (l + r))]) (by simp [results, Try.results60, go_sem, kw1_0_0, kw1_0_1, kw1_0_2, fw1_0_0, fw1_0_1, fw1_0_2, kw1_1_0, kw1_1_1, kw1_1_2, fw1_1_0, fw1_1_1, fw1_1_2]) rfl ⟨by simp [vA, vB], (by repeat (first | refine bl_set ?_ (by first | omega | (simp; done) | (simp; omega)) _ | exact HBw1.out))⟩
set_option maxHeartbeats 800000 in
theorem clueOf_3 (a wd l r : Int) (h : okH wd l r = true) (w : World) :
    Calls Try.prog 60 #[.agg #[.int .i64 wd, .int .i64 l, .int .i64 r], .int .i64 3, .int .i64 a] w fun e w' => e = .returned (.agg #[.int .i64 3, .int .i64 (vA 3 a wd l r), .int .i64 (vB 3 a wd l r)]) ∧ Below w.heap.size w w' := by
  obtain ⟨⟨w0, w1⟩, ⟨l0, l1⟩, r0, r1⟩ := okH_bd h
  obtain ⟨f1, f2⟩ := mul_bd (a := l) (b := r) (m := 12) (by omega) (by omega) l1 r1
  have q1 := sq_bd (a := wd) (b := l) (by omega) (by omega) (by omega) (by omega)
  have q2 := sq_bd (a := wd) (b := r) (by omega) (by omega) (by omega) (by omega)
  by_cases ha : a = 1
  · subst ha
    cases hw : whole (sq wd r)
    · go_enter Try.func60, Try.ntmps60
      go_wp2_with (first | (go_at_call 79; refine (squareOfLength_any _ _ (by omega) (by omega) (by omega) (by omega) _).mono ?_; rintro e w' ⟨rfl, rfl⟩) | (go_at_call 78; refine (wholeRoot_any (sq wd r) (by omega) (by omega) _).mono ?_; rintro e w' ⟨rfl, rfl⟩) | (go_at_call 76; refine (oneIf_any _ _).mono ?_; rintro e w' ⟨rfl, rfl⟩))
      exact bodyPost_ret (v := .agg #[.int .i64 3, .int .i64 1, .int .i64 0]) (by simp [results, Try.results60, go_sem]) rfl ⟨by simp [vA, vB, hw], (by repeat (first | exact Below.refl _ _ | refine bl_alloc ?_ _ | refine bl_drewN ?_ _ | refine bl_trans (by assumption) ?_ | refine bl_set ?_ (by first | omega | (simp; done) | (simp; omega)) _))⟩
    · go_enter Try.func60, Try.ntmps60
      go_wp2_with (first | (go_at_call 79; refine (squareOfLength_any _ _ (by omega) (by omega) (by omega) (by omega) _).mono ?_; rintro e w' ⟨rfl, rfl⟩) | (go_at_call 78; refine (wholeRoot_any (sq wd r) (by omega) (by omega) _).mono ?_; rintro e w' ⟨rfl, rfl⟩) | (go_at_call 76; refine (oneIf_any _ _).mono ?_; rintro e w' ⟨rfl, rfl⟩))
      exact bodyPost_ret (v := .agg #[.int .i64 3, .int .i64 1, .int .i64 1]) (by simp [results, Try.results60, go_sem]) rfl ⟨by simp [vA, vB, hw], (by repeat (first | exact Below.refl _ _ | refine bl_alloc ?_ _ | refine bl_drewN ?_ _ | refine bl_trans (by assumption) ?_ | refine bl_set ?_ (by first | omega | (simp; done) | (simp; omega)) _))⟩
  ·
    cases hw : whole (sq wd l)
    · go_enter Try.func60, Try.ntmps60
      go_wp2_with (first | (go_at_call 79; refine (squareOfLength_any _ _ (by omega) (by omega) (by omega) (by omega) _).mono ?_; rintro e w' ⟨rfl, rfl⟩) | (go_at_call 78; refine (wholeRoot_any (sq wd l) (by omega) (by omega) _).mono ?_; rintro e w' ⟨rfl, rfl⟩) | (go_at_call 76; refine (oneIf_any _ _).mono ?_; rintro e w' ⟨rfl, rfl⟩))
      exact bodyPost_ret (v := .agg #[.int .i64 3, .int .i64 a, .int .i64 0]) (by simp [results, Try.results60, go_sem]) rfl ⟨by simp [vA, vB, hw, ha], (by repeat (first | exact Below.refl _ _ | refine bl_alloc ?_ _ | refine bl_drewN ?_ _ | refine bl_trans (by assumption) ?_ | refine bl_set ?_ (by first | omega | (simp; done) | (simp; omega)) _))⟩
    · go_enter Try.func60, Try.ntmps60
      go_wp2_with (first | (go_at_call 79; refine (squareOfLength_any _ _ (by omega) (by omega) (by omega) (by omega) _).mono ?_; rintro e w' ⟨rfl, rfl⟩) | (go_at_call 78; refine (wholeRoot_any (sq wd l) (by omega) (by omega) _).mono ?_; rintro e w' ⟨rfl, rfl⟩) | (go_at_call 76; refine (oneIf_any _ _).mono ?_; rintro e w' ⟨rfl, rfl⟩))
      exact bodyPost_ret (v := .agg #[.int .i64 3, .int .i64 a, .int .i64 1]) (by simp [results, Try.results60, go_sem]) rfl ⟨by simp [vA, vB, hw, ha], (by repeat (first | exact Below.refl _ _ | refine bl_alloc ?_ _ | refine bl_drewN ?_ _ | refine bl_trans (by assumption) ?_ | refine bl_set ?_ (by first | omega | (simp; done) | (simp; omega)) _))⟩
set_option maxHeartbeats 800000 in
theorem clueOf_4 (a wd l r : Int) (h : okH wd l r = true) (w : World) :
    Calls Try.prog 60 #[.agg #[.int .i64 wd, .int .i64 l, .int .i64 r], .int .i64 4, .int .i64 a] w fun e w' => e = .returned (.agg #[.int .i64 4, .int .i64 (vA 4 a wd l r), .int .i64 (vB 4 a wd l r)]) ∧ Below w.heap.size w w' := by
  obtain ⟨⟨w0, w1⟩, ⟨l0, l1⟩, r0, r1⟩ := okH_bd h
  go_enter Try.func60, Try.ntmps60
  go_wp2_with fail
  refine (impl_CrossPlace _ _ _ _).mono ?_
  rintro e w1 ⟨rfl, hbw1⟩
  obtain ⟨hcw1, hfw1⟩ := bcell hbw1
  have hzw1 := bsize hbw1
  (try simp only [World.size_alloc, World.size_setCell] at hzw1)
  have kw1_0_0 : w1.cell? ⟨w.heap.size + 1, 0, none⟩ = some (.int .i64 0) := by rw [hcw1 _ _ (by first | (simp; done) | omega | (simp; omega))]; first | assumption | (simp [go_sem]; done) | (simp [go_sem]; done) | (simp [go_sem, *]; done)
  have fw1_0_0 : w1.frozen? ⟨w.heap.size + 1, 0, none⟩ = false := by rw [hfw1 _ _ (by first | (simp; done) | omega | (simp; omega))]; first | assumption | (simp [go_sem]; done) | (simp [go_sem]; done) | (simp [go_sem, *]; done)
  have kw1_0_1 : w1.cell? ⟨w.heap.size + 1, 1, none⟩ = some (.int .i64 0) := by rw [hcw1 _ _ (by first | (simp; done) | omega | (simp; omega))]; first | assumption | (simp [go_sem]; done) | (simp [go_sem]; done) | (simp [go_sem, *]; done)
  have fw1_0_1 : w1.frozen? ⟨w.heap.size + 1, 1, none⟩ = false := by rw [hfw1 _ _ (by first | (simp; done) | omega | (simp; omega))]; first | assumption | (simp [go_sem]; done) | (simp [go_sem]; done) | (simp [go_sem, *]; done)
  have kw1_0_2 : w1.cell? ⟨w.heap.size + 1, 2, none⟩ = some (.int .i64 0) := by rw [hcw1 _ _ (by first | (simp; done) | omega | (simp; omega))]; first | assumption | (simp [go_sem]; done) | (simp [go_sem]; done) | (simp [go_sem, *]; done)
  have fw1_0_2 : w1.frozen? ⟨w.heap.size + 1, 2, none⟩ = false := by rw [hfw1 _ _ (by first | (simp; done) | omega | (simp; omega))]; first | assumption | (simp [go_sem]; done) | (simp [go_sem]; done) | (simp [go_sem, *]; done)
  have sw1_0 : w.heap.size + 1 < w1.heap.size := by first | omega | (simp at *; omega)
  have kw1_1_0 : w1.cell? ⟨w.heap.size + 1 + 1, 0, none⟩ = some (.int .i64 4) := by rw [hcw1 _ _ (by first | (simp; done) | omega | (simp; omega))]; first | assumption | (simp [go_sem]; done) | (simp [go_sem]; done) | (simp [go_sem, *]; done)
  have fw1_1_0 : w1.frozen? ⟨w.heap.size + 1 + 1, 0, none⟩ = false := by rw [hfw1 _ _ (by first | (simp; done) | omega | (simp; omega))]; first | assumption | (simp [go_sem]; done) | (simp [go_sem]; done) | (simp [go_sem, *]; done)
  have kw1_1_1 : w1.cell? ⟨w.heap.size + 1 + 1, 1, none⟩ = some (.int .i64 0) := by rw [hcw1 _ _ (by first | (simp; done) | omega | (simp; omega))]; first | assumption | (simp [go_sem]; done) | (simp [go_sem]; done) | (simp [go_sem, *]; done)
  have fw1_1_1 : w1.frozen? ⟨w.heap.size + 1 + 1, 1, none⟩ = false := by rw [hfw1 _ _ (by first | (simp; done) | omega | (simp; omega))]; first | assumption | (simp [go_sem]; done) | (simp [go_sem]; done) | (simp [go_sem, *]; done)
  have kw1_1_2 : w1.cell? ⟨w.heap.size + 1 + 1, 2, none⟩ = some (.int .i64 0) := by rw [hcw1 _ _ (by first | (simp; done) | omega | (simp; omega))]; first | assumption | (simp [go_sem]; done) | (simp [go_sem]; done) | (simp [go_sem, *]; done)
  have fw1_1_2 : w1.frozen? ⟨w.heap.size + 1 + 1, 2, none⟩ = false := by rw [hfw1 _ _ (by first | (simp; done) | omega | (simp; omega))]; first | assumption | (simp [go_sem]; done) | (simp [go_sem]; done) | (simp [go_sem, *]; done)
  have sw1_1 : w.heap.size + 1 + 1 < w1.heap.size := by first | omega | (simp at *; omega)
  have hBw1 : Below w.heap.size w w1 := (by repeat (first | exact Below.refl _ _ | refine bl_alloc ?_ _ | refine bl_drewN ?_ _ | refine bl_trans (by assumption) ?_ | refine bl_set ?_ (by first | omega | (simp; done) | (simp; omega)) _))
  have HBw1 := Lib.hid hBw1
  clear hBw1 hcw1 hfw1 hbw1
  rw [CP_H h, CP_H h]
  go_wp2
  exact bodyPost_ret (v := .agg #[.int .i64 4, .int .i64 (ln (wd * l) (l + r)), .int .i64 (ld (wd * l) (l + r))]) (by simp [results, Try.results60, go_sem, kw1_0_0, kw1_0_1, kw1_0_2, fw1_0_0, fw1_0_1, fw1_0_2, kw1_1_0, kw1_1_1, kw1_1_2, fw1_1_0, fw1_1_1, fw1_1_2]) rfl ⟨by simp [vA, vB], (by repeat (first | refine bl_set ?_ (by first | omega | (simp; done) | (simp; omega)) _ | exact HBw1.out))⟩
set_option maxHeartbeats 800000 in
theorem clueOf_5 (a wd l r : Int) (h : okH wd l r = true) (w : World) :
    Calls Try.prog 60 #[.agg #[.int .i64 wd, .int .i64 l, .int .i64 r], .int .i64 5, .int .i64 a] w fun e w' => e = .returned (.agg #[.int .i64 5, .int .i64 (vA 5 a wd l r), .int .i64 (vB 5 a wd l r)]) ∧ Below w.heap.size w w' := by
  obtain ⟨⟨w0, w1⟩, ⟨l0, l1⟩, r0, r1⟩ := okH_bd h
  obtain ⟨f1, f2⟩ := mul_bd (a := l) (b := r) (m := 12) (by omega) (by omega) l1 r1
  go_enter Try.func60, Try.ntmps60
  go_wp2
  exact bodyPost_ret (v := .agg #[.int .i64 5, .int .i64 0, .int .i64 (l * r)]) (by simp [results, Try.results60, go_sem]) rfl ⟨by simp [vA, vB], (by repeat (first | exact Below.refl _ _ | refine bl_alloc ?_ _ | refine bl_drewN ?_ _ | refine bl_trans (by assumption) ?_ | refine bl_set ?_ (by first | omega | (simp; done) | (simp; omega)) _))⟩
theorem clueOf_any (k a wd l r : Int) (hk : k = 0 ∨ k = 1 ∨ k = 2 ∨ k = 3 ∨ k = 4 ∨ k = 5) (h : okH wd l r = true) (w : World) :
    Calls Try.prog 60 #[.agg #[.int .i64 wd, .int .i64 l, .int .i64 r], .int .i64 k, .int .i64 a] w fun e w' => e = .returned (.agg #[.int .i64 k, .int .i64 (vA k a wd l r), .int .i64 (vB k a wd l r)]) ∧ Below w.heap.size w w' := by
  rcases hk with rfl | rfl | rfl | rfl | rfl | rfl
  · exact clueOf_0 a wd l r h w
  · exact clueOf_1 a wd l r h w
  · exact clueOf_2 a wd l r h w
  · exact clueOf_3 a wd l r h w
  · exact clueOf_4 a wd l r h w
  · exact clueOf_5 a wd l r h w
set_option maxHeartbeats 800000 in
theorem pzValue_0 (a wd l r : Int) (h : okH wd l r = true) (w : World) :
    Calls Try.prog 75 #[.int .i64 0, .int .i64 a, .agg #[.int .i64 wd, .int .i64 l, .int .i64 r]] w fun e w' => e = .returned (.tuple #[.int .i64 (a), .int .i64 (vB 0 a wd l r)]) ∧ Below w.heap.size w w' := by
  obtain ⟨⟨w0, w1⟩, ⟨l0, l1⟩, r0, r1⟩ := okH_bd h
  go_enter Try.func75, Try.ntmps75
  go_wp2
  go_ret2
  exact ⟨by simp [vA, vB], (by repeat (first | exact Below.refl _ _ | refine bl_alloc ?_ _ | refine bl_drewN ?_ _ | refine bl_trans (by assumption) ?_ | refine bl_set ?_ (by first | omega | (simp; done) | (simp; omega)) _))⟩
set_option maxHeartbeats 800000 in
theorem pzValue_1 (a wd l r : Int) (h : okH wd l r = true) (w : World) :
    Calls Try.prog 75 #[.int .i64 1, .int .i64 a, .agg #[.int .i64 wd, .int .i64 l, .int .i64 r]] w fun e w' => e = .returned (.tuple #[.int .i64 (a), .int .i64 (vB 1 a wd l r)]) ∧ Below w.heap.size w w' := by
  obtain ⟨⟨w0, w1⟩, ⟨l0, l1⟩, r0, r1⟩ := okH_bd h
  by_cases hlr : r < l
  · go_enter Try.func75, Try.ntmps75
    go_wp2
    go_ret2
    exact ⟨by simp [vA, vB, hlr], (by repeat (first | exact Below.refl _ _ | refine bl_alloc ?_ _ | refine bl_drewN ?_ _ | refine bl_trans (by assumption) ?_ | refine bl_set ?_ (by first | omega | (simp; done) | (simp; omega)) _))⟩
  · go_enter Try.func75, Try.ntmps75
    go_wp2
    go_ret2
    exact ⟨by simp [vA, vB, hlr], (by repeat (first | exact Below.refl _ _ | refine bl_alloc ?_ _ | refine bl_drewN ?_ _ | refine bl_trans (by assumption) ?_ | refine bl_set ?_ (by first | omega | (simp; done) | (simp; omega)) _))⟩
set_option maxHeartbeats 800000 in
theorem pzValue_2 (a wd l r : Int) (h : okH wd l r = true) (w : World) :
    Calls Try.prog 75 #[.int .i64 2, .int .i64 a, .agg #[.int .i64 wd, .int .i64 l, .int .i64 r]] w fun e w' => e = .returned (.tuple #[.int .i64 (vA 2 a wd l r), .int .i64 (vB 2 a wd l r)]) ∧ Below w.heap.size w w' := by
  obtain ⟨⟨w0, w1⟩, ⟨l0, l1⟩, r0, r1⟩ := okH_bd h
  obtain ⟨f1, f2⟩ := mul_bd (a := l) (b := r) (m := 12) (by omega) (by omega) (by omega) (by omega)
  go_enter Try.func75, Try.ntmps75
  go_wp2_with (go_at_call 88; refine (clLow_any (l * r) (l + r) (by omega) (by omega) (by omega) (by omega) _).mono ?_; rintro e w' ⟨rfl, nn, rfl⟩)
  go_ret2
  exact ⟨by simp [vA, vB], (by repeat (first | exact Below.refl _ _ | refine bl_alloc ?_ _ | refine bl_drewN ?_ _ | refine bl_trans (by assumption) ?_ | refine bl_set ?_ (by first | omega | (simp; done) | (simp; omega)) _))⟩
set_option maxHeartbeats 800000 in
theorem pzValue_3 (a wd l r : Int) (h : okH wd l r = true) (w : World) :
    Calls Try.prog 75 #[.int .i64 3, .int .i64 a, .agg #[.int .i64 wd, .int .i64 l, .int .i64 r]] w fun e w' => e = .returned (.tuple #[.int .i64 (a), .int .i64 (vB 3 a wd l r)]) ∧ Below w.heap.size w w' := by
  obtain ⟨⟨w0, w1⟩, ⟨l0, l1⟩, r0, r1⟩ := okH_bd h
  have q1 := sq_bd (a := wd) (b := l) (by omega) (by omega) (by omega) (by omega)
  have q2 := sq_bd (a := wd) (b := r) (by omega) (by omega) (by omega) (by omega)
  have hL := okH_L h
  by_cases ha : a = 1
  · subst ha
    obtain ⟨g1, g2, g3⟩ := rt_facts q2.2.2.1
    have g4 : 0 ≤ rt (sq wd r) * rt (sq wd r) := Int.mul_nonneg g1 g1
    have g6 := q2.2.2.2
    clear g3 q1 q2
    have hw : whole (sq wd r) = (rt (sq wd r) * rt (sq wd r) == sq wd r) := rfl
    have HW := Lib.hid hw
    clear hw
    by_cases g5 : rt (sq wd r) * rt (sq wd r) = sq wd r
    · go_enter Try.func75, Try.ntmps75
      go_wp2_with (first | (go_at_call 89; refine (clSquares_any _ _ _ hL _).mono ?_; rintro e w1 ⟨rfl, hb⟩; obtain ⟨hc, hf⟩ := bcell hb; have hz := bsize hb; (try simp only [World.size_alloc, World.size_setCell] at hz); (try have hz0 : w.heap.size < w1.heap.size := by omega)) | (go_at_call 90; refine (clRoot_any (sq wd r) (by omega) (by omega) _).mono ?_; rintro e w' ⟨rfl, rfl⟩))
      go_ret2
      exact ⟨by simp [vA, vB, HW.out, g5], (by repeat (first | exact Below.refl _ _ | refine bl_alloc ?_ _ | refine bl_drewN ?_ _ | refine bl_trans (by assumption) ?_ | refine bl_set ?_ (by first | omega | (simp; done) | (simp; omega)) _))⟩
    · go_enter Try.func75, Try.ntmps75
      go_wp2_with (first | (go_at_call 89; refine (clSquares_any _ _ _ hL _).mono ?_; rintro e w1 ⟨rfl, hb⟩; obtain ⟨hc, hf⟩ := bcell hb; have hz := bsize hb; (try simp only [World.size_alloc, World.size_setCell] at hz); (try have hz0 : w.heap.size < w1.heap.size := by omega)) | (go_at_call 90; refine (clRoot_any (sq wd r) (by omega) (by omega) _).mono ?_; rintro e w' ⟨rfl, rfl⟩))
      go_ret2
      exact ⟨by simp [vA, vB, HW.out, g5], (by repeat (first | exact Below.refl _ _ | refine bl_alloc ?_ _ | refine bl_drewN ?_ _ | refine bl_trans (by assumption) ?_ | refine bl_set ?_ (by first | omega | (simp; done) | (simp; omega)) _))⟩
  · obtain ⟨g1, g2, g3⟩ := rt_facts q1.2.2.1
    have g4 : 0 ≤ rt (sq wd l) * rt (sq wd l) := Int.mul_nonneg g1 g1
    have g6 := q1.2.2.2
    clear g3 q1 q2
    have hw : whole (sq wd l) = (rt (sq wd l) * rt (sq wd l) == sq wd l) := rfl
    have HW := Lib.hid hw
    clear hw
    by_cases g5 : rt (sq wd l) * rt (sq wd l) = sq wd l
    · go_enter Try.func75, Try.ntmps75
      go_wp2_with (first | (go_at_call 89; refine (clSquares_any _ _ _ hL _).mono ?_; rintro e w1 ⟨rfl, hb⟩; obtain ⟨hc, hf⟩ := bcell hb; have hz := bsize hb; (try simp only [World.size_alloc, World.size_setCell] at hz); (try have hz0 : w.heap.size < w1.heap.size := by omega)) | (go_at_call 90; refine (clRoot_any (sq wd l) (by omega) (by omega) _).mono ?_; rintro e w' ⟨rfl, rfl⟩))
      go_ret2
      exact ⟨by simp [vA, vB, HW.out, g5, ha], (by repeat (first | exact Below.refl _ _ | refine bl_alloc ?_ _ | refine bl_drewN ?_ _ | refine bl_trans (by assumption) ?_ | refine bl_set ?_ (by first | omega | (simp; done) | (simp; omega)) _))⟩
    · go_enter Try.func75, Try.ntmps75
      go_wp2_with (first | (go_at_call 89; refine (clSquares_any _ _ _ hL _).mono ?_; rintro e w1 ⟨rfl, hb⟩; obtain ⟨hc, hf⟩ := bcell hb; have hz := bsize hb; (try simp only [World.size_alloc, World.size_setCell] at hz); (try have hz0 : w.heap.size < w1.heap.size := by omega)) | (go_at_call 90; refine (clRoot_any (sq wd l) (by omega) (by omega) _).mono ?_; rintro e w' ⟨rfl, rfl⟩))
      go_ret2
      exact ⟨by simp [vA, vB, HW.out, g5, ha], (by repeat (first | exact Below.refl _ _ | refine bl_alloc ?_ _ | refine bl_drewN ?_ _ | refine bl_trans (by assumption) ?_ | refine bl_set ?_ (by first | omega | (simp; done) | (simp; omega)) _))⟩
set_option maxHeartbeats 800000 in
theorem pzValue_4 (a wd l r : Int) (h : okH wd l r = true) (w : World) :
    Calls Try.prog 75 #[.int .i64 4, .int .i64 a, .agg #[.int .i64 wd, .int .i64 l, .int .i64 r]] w fun e w' => e = .returned (.tuple #[.int .i64 (vA 4 a wd l r), .int .i64 (vB 4 a wd l r)]) ∧ Below w.heap.size w w' := by
  obtain ⟨⟨w0, w1⟩, ⟨l0, l1⟩, r0, r1⟩ := okH_bd h
  obtain ⟨f1, f2⟩ := mul_bd (a := wd) (b := l) (m := 12) (by omega) (by omega) (by omega) (by omega)
  go_enter Try.func75, Try.ntmps75
  go_wp2_with (go_at_call 88; refine (clLow_any (wd * l) (l + r) (by omega) (by omega) (by omega) (by omega) _).mono ?_; rintro e w' ⟨rfl, nn, rfl⟩)
  go_ret2
  exact ⟨by simp [vA, vB], (by repeat (first | exact Below.refl _ _ | refine bl_alloc ?_ _ | refine bl_drewN ?_ _ | refine bl_trans (by assumption) ?_ | refine bl_set ?_ (by first | omega | (simp; done) | (simp; omega)) _))⟩
set_option maxHeartbeats 800000 in
theorem pzValue_5 (a wd l r : Int) (h : okH wd l r = true) (w : World) :
    Calls Try.prog 75 #[.int .i64 5, .int .i64 a, .agg #[.int .i64 wd, .int .i64 l, .int .i64 r]] w fun e w' => e = .returned (.tuple #[.int .i64 (a), .int .i64 (vB 5 a wd l r)]) ∧ Below w.heap.size w w' := by
  obtain ⟨⟨w0, w1⟩, ⟨l0, l1⟩, r0, r1⟩ := okH_bd h
  obtain ⟨f1, f2⟩ := mul_bd (a := l) (b := r) (m := 12) (by omega) (by omega) (by omega) (by omega)
  go_enter Try.func75, Try.ntmps75
  go_wp2
  go_ret2
  exact ⟨by simp [vA, vB], (by repeat (first | exact Below.refl _ _ | refine bl_alloc ?_ _ | refine bl_drewN ?_ _ | refine bl_trans (by assumption) ?_ | refine bl_set ?_ (by first | omega | (simp; done) | (simp; omega)) _))⟩
theorem pzValue_any (k a wd l r : Int) (hk : k = 0 ∨ k = 1 ∨ k = 2 ∨ k = 3 ∨ k = 4 ∨ k = 5) (ha : (k = 0 ∨ k = 1 ∨ k = 5) → a = 0) (h : okH wd l r = true) (w : World) :
    Calls Try.prog 75 #[.int .i64 k, .int .i64 a, .agg #[.int .i64 wd, .int .i64 l, .int .i64 r]] w fun e w' => e = .returned (.tuple #[.int .i64 (vA k a wd l r), .int .i64 (vB k a wd l r)]) ∧ Below w.heap.size w w' := by
  rcases hk with rfl | rfl | rfl | rfl | rfl | rfl
  · obtain rfl := ha (by simp); exact pzValue_0 0 wd l r h w
  · obtain rfl := ha (by simp); exact pzValue_1 0 wd l r h w
  · exact pzValue_2 a wd l r h w
  · exact pzValue_3 a wd l r h w
  · exact pzValue_4 a wd l r h w
  · obtain rfl := ha (by simp); exact pzValue_5 0 wd l r h w
end Go.Proofs.Ytahcfjpplkemdaa

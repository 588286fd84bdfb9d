/- What clues tell of ladders; which ladders fit. -/
import Derived.Test.YtgghceckpdfogaaPZ2
import Derived.Test.YtgghceckpdfogaaC2
import Derived.Test.YtgghceckpdfogaaC3
import Derived.BigQuiet
namespace Go.Proofs.Ytgghceckpdfogaa
open Go.RowKit
set_option linter.unusedVariables false
set_option linter.unusedSimpArgs false
set_option maxHeartbeats 400000 in
theorem oneIf_any (b : Bool) (w : World) : Calls Try.prog 94 #[.bool b] w fun e w' => e = .returned (.int .i64 (if b then 1 else 0)) ∧ w = w' := by
  cases b
  all_goals
    go_enter Try.func94, Try.ntmps94
    go_wp2
    go_ret
    exact ⟨rfl, rfl⟩
theorem CH_H {wd l r : Int} (h : okH wd l r = true) (f : Int → Int → Int) : CH f wd l r = f (l * r) (l + r) := by rw [CH, okH_L h]; rfl
theorem CP_H {wd l r : Int} (h : okH wd l r = true) (f : Int → Int → Int) : CP f wd l r = f (wd * l) (l + r) := by rw [CP, okH_L h]; rfl
set_option maxHeartbeats 800000 in
theorem clueOf_0 (a wd l r : Int) (h : okH wd l r = true) (w : World) :
    Calls Try.prog 89 #[.agg #[.int .i64 wd, .int .i64 l, .int .i64 r], .int .i64 0, .int .i64 a] w fun e w' => e = .returned (.agg #[.int .i64 0, .int .i64 (vA 0 a wd l r), .int .i64 (vB 0 a wd l r)]) ∧ Below w.heap.size w w' := by
  obtain ⟨⟨w0, w1⟩, ⟨l0, l1⟩, r0, r1⟩ := okH_bd h
  obtain ⟨f1, f2⟩ := mul_bd (a := l) (b := r) (m := 12) (by omega) (by omega) l1 r1
  go_enter Try.func89, Try.ntmps89
  go_wp2
  exact bodyPost_ret (v := .agg #[.int .i64 0, .int .i64 0, .int .i64 (l + r)]) (by simp [results, Try.results89, go_sem]) rfl ⟨by simp [vA, vB], (by repeat (first | exact Below.refl _ _ | refine bl_alloc ?_ _ | refine bl_drewN ?_ _ | refine bl_trans (by assumption) ?_ | refine bl_set ?_ (by first | omega | (simp; done) | (simp; omega)) _))⟩
set_option maxHeartbeats 800000 in
theorem clueOf_1 (a wd l r : Int) (h : okH wd l r = true) (w : World) :
    Calls Try.prog 89 #[.agg #[.int .i64 wd, .int .i64 l, .int .i64 r], .int .i64 1, .int .i64 a] w fun e w' => e = .returned (.agg #[.int .i64 1, .int .i64 (vA 1 a wd l r), .int .i64 (vB 1 a wd l r)]) ∧ Below w.heap.size w w' := by
  obtain ⟨⟨w0, w1⟩, ⟨l0, l1⟩, r0, r1⟩ := okH_bd h
  obtain ⟨f1, f2⟩ := mul_bd (a := l) (b := r) (m := 12) (by omega) (by omega) l1 r1
  by_cases hlr : r < l
  · go_enter Try.func89, Try.ntmps89
    go_wp2_with (go_at_call 94; refine (oneIf_any _ _).mono ?_; rintro e w' ⟨rfl, rfl⟩)
    exact bodyPost_ret (v := .agg #[.int .i64 1, .int .i64 0, .int .i64 1]) (by simp [results, Try.results89, go_sem]) rfl ⟨by simp [vA, vB, hlr], (by repeat (first | exact Below.refl _ _ | refine bl_alloc ?_ _ | refine bl_drewN ?_ _ | refine bl_trans (by assumption) ?_ | refine bl_set ?_ (by first | omega | (simp; done) | (simp; omega)) _))⟩
  · go_enter Try.func89, Try.ntmps89
    go_wp2_with (go_at_call 94; refine (oneIf_any _ _).mono ?_; rintro e w' ⟨rfl, rfl⟩)
    exact bodyPost_ret (v := .agg #[.int .i64 1, .int .i64 0, .int .i64 0]) (by simp [results, Try.results89, go_sem]) rfl ⟨by simp [vA, vB, hlr], (by repeat (first | exact Below.refl _ _ | refine bl_alloc ?_ _ | refine bl_drewN ?_ _ | refine bl_trans (by assumption) ?_ | refine bl_set ?_ (by first | omega | (simp; done) | (simp; omega)) _))⟩
set_option maxHeartbeats 800000 in
theorem clueOf_2 (a wd l r : Int) (h : okH wd l r = true) (w : World) :
    Calls Try.prog 89 #[.agg #[.int .i64 wd, .int .i64 l, .int .i64 r], .int .i64 2, .int .i64 a] w fun e w' => e = .returned (.agg #[.int .i64 2, .int .i64 (vA 2 a wd l r), .int .i64 (vB 2 a wd l r)]) ∧ Below w.heap.size w w' := by
  obtain ⟨⟨w0, w1⟩, ⟨l0, l1⟩, r0, r1⟩ := okH_bd h
  obtain ⟨f1, f2⟩ := mul_bd (a := l) (b := r) (m := 12) (by omega) (by omega) l1 r1
  go_enter Try.func89, Try.ntmps89
  go_wp2_with fail
  refine (impl_CrossHeight _ _ _ _).mono ?_
  rintro e w1 ⟨rfl, hbw1⟩
  obtain ⟨hcw1, hfw1⟩ := bcell hbw1
  have hzw1 := bsize hbw1
  (try simp only [World.size_alloc, World.size_setCell] at hzw1)
  have kw1_0_0 : w1.cell? ⟨w.heap.size + 1, 0, none⟩ = some (.int .i64 0) := by rw [hcw1 _ _ (by first | (simp; done) | omega | (simp; omega))]; first | assumption | (simp [go_sem]; done) | (simp [go_sem]; done) | (simp [go_sem, *]; done)
  have fw1_0_0 : w1.frozen? ⟨w.heap.size + 1, 0, none⟩ = false := by rw [hfw1 _ _ (by first | (simp; done) | omega | (simp; omega))]; first | assumption | (simp [go_sem]; done) | (simp [go_sem]; done) | (simp [go_sem, *]; done)
  have kw1_0_1 : w1.cell? ⟨w.heap.size + 1, 1, none⟩ = some (.int .i64 0) := by rw [hcw1 _ _ (by first | (simp; done) | omega | (simp; omega))]; first | assumption | (simp [go_sem]; done) | (simp [go_sem]; done) | (simp [go_sem, *]; done)
  have fw1_0_1 : w1.frozen? ⟨w.heap.size + 1, 1, none⟩ = false := by rw [hfw1 _ _ (by first | (simp; done) | omega | (simp; omega))]; first | assumption | (simp [go_sem]; done) | (simp [go_sem]; done) | (simp [go_sem, *]; done)
  have kw1_0_2 : w1.cell? ⟨w.heap.size + 1, 2, none⟩ = some (.int .i64 0) := by rw [hcw1 _ _ (by first | (simp; done) | omega | (simp; omega))]; first | assumption | (simp [go_sem]; done) | (simp [go_sem]; done) | (simp [go_sem, *]; done)
  have fw1_0_2 : w1.frozen? ⟨w.heap.size + 1, 2, none⟩ = false := by rw [hfw1 _ _ (by first | (simp; done) | omega | (simp; omega))]; first | assumption | (simp [go_sem]; done) | (simp [go_sem]; done) | (simp [go_sem, *]; done)
  have sw1_0 : w.heap.size + 1 < w1.heap.size := by first | omega | (simp at *; omega)
  have kw1_1_0 : w1.cell? ⟨w.heap.size + 1 + 1, 0, none⟩ = some (.int .i64 2) := by rw [hcw1 _ _ (by first | (simp; done) | omega | (simp; omega))]; first | assumption | (simp [go_sem]; done) | (simp [go_sem]; done) | (simp [go_sem, *]; done)
  have fw1_1_0 : w1.frozen? ⟨w.heap.size + 1 + 1, 0, none⟩ = false := by rw [hfw1 _ _ (by first | (simp; done) | omega | (simp; omega))]; first | assumption | (simp [go_sem]; done) | (simp [go_sem]; done) | (simp [go_sem, *]; done)
  have kw1_1_1 : w1.cell? ⟨w.heap.size + 1 + 1, 1, none⟩ = some (.int .i64 0) := by rw [hcw1 _ _ (by first | (simp; done) | omega | (simp; omega))]; first | assumption | (simp [go_sem]; done) | (simp [go_sem]; done) | (simp [go_sem, *]; done)
  have fw1_1_1 : w1.frozen? ⟨w.heap.size + 1 + 1, 1, none⟩ = false := by rw [hfw1 _ _ (by first | (simp; done) | omega | (simp; omega))]; first | assumption | (simp [go_sem]; done) | (simp [go_sem]; done) | (simp [go_sem, *]; done)
  have kw1_1_2 : w1.cell? ⟨w.heap.size + 1 + 1, 2, none⟩ = some (.int .i64 0) := by rw [hcw1 _ _ (by first | (simp; done) | omega | (simp; omega))]; first | assumption | (simp [go_sem]; done) | (simp [go_sem]; done) | (simp [go_sem, *]; done)
  have fw1_1_2 : w1.frozen? ⟨w.heap.size + 1 + 1, 2, none⟩ = false := by rw [hfw1 _ _ (by first | (simp; done) | omega | (simp; omega))]; first | assumption | (simp [go_sem]; done) | (simp [go_sem]; done) | (simp [go_sem, *]; done)
  have sw1_1 : w.heap.size + 1 + 1 < w1.heap.size := by first | omega | (simp at *; omega)
  have hBw1 : Below w.heap.size w w1 := (by repeat (first | exact Below.refl _ _ | refine bl_alloc ?_ _ | refine bl_drewN ?_ _ | refine bl_trans (by assumption) ?_ | refine bl_set ?_ (by first | omega | (simp; done) | (simp; omega)) _))
  have HBw1 := Lib.hid hBw1
  clear hBw1 hcw1 hfw1 hbw1
  rw [CH_H h, CH_H h]
  go_wp2
  exact bodyPost_ret (v := .agg #[.int .i64 2, .int .i64 (ln (l * r) (l + r)), .int .i64 (ld (l * r) (l + r))]) (by simp [results, Try.results89, go_sem, kw1_0_0, kw1_0_1, kw1_0_2, fw1_0_0, fw1_0_1, fw1_0_2, kw1_1_0, kw1_1_1, kw1_1_2, fw1_1_0, fw1_1_1, fw1_1_2]) rfl ⟨by simp [vA, vB], (by repeat (first | refine bl_set ?_ (by first | omega | (simp; done) | (simp; omega)) _ | exact HBw1.out))⟩
set_option maxHeartbeats 800000 in
theorem clueOf_3 (a wd l r : Int) (h : okH wd l r = true) (w : World) :
    Calls Try.prog 89 #[.agg #[.int .i64 wd, .int .i64 l, .int .i64 r], .int .i64 3, .int .i64 a] w fun e w' => e = .returned (.agg #[.int .i64 3, .int .i64 (vA 3 a wd l r), .int .i64 (vB 3 a wd l r)]) ∧ Below w.heap.size w w' := by
  obtain ⟨⟨w0, w1⟩, ⟨l0, l1⟩, r0, r1⟩ := okH_bd h
  obtain ⟨f1, f2⟩ := mul_bd (a := l) (b := r) (m := 12) (by omega) (by omega) l1 r1
  have q1 := sq_bd (a := wd) (b := l) (by omega) (by omega) (by omega) (by omega)
  have q2 := sq_bd (a := wd) (b := r) (by omega) (by omega) (by omega) (by omega)
  by_cases ha : a = 1
  · subst ha
    cases hw : whole (sq wd r)
    · go_enter Try.func89, Try.ntmps89
      go_wp2_with (first | (go_at_call 97; refine (squareOfLength_any _ _ (by omega) (by omega) (by omega) (by omega) _).mono ?_; rintro e w' ⟨rfl, rfl⟩) | (go_at_call 96; refine (wholeRoot_any (sq wd r) (by omega) (by omega) _).mono ?_; rintro e w' ⟨rfl, rfl⟩) | (go_at_call 94; refine (oneIf_any _ _).mono ?_; rintro e w' ⟨rfl, rfl⟩))
      exact bodyPost_ret (v := .agg #[.int .i64 3, .int .i64 1, .int .i64 0]) (by simp [results, Try.results89, go_sem]) rfl ⟨by simp [vA, vB, hw], (by repeat (first | exact Below.refl _ _ | refine bl_alloc ?_ _ | refine bl_drewN ?_ _ | refine bl_trans (by assumption) ?_ | refine bl_set ?_ (by first | omega | (simp; done) | (simp; omega)) _))⟩
    · go_enter Try.func89, Try.ntmps89
      go_wp2_with (first | (go_at_call 97; refine (squareOfLength_any _ _ (by omega) (by omega) (by omega) (by omega) _).mono ?_; rintro e w' ⟨rfl, rfl⟩) | (go_at_call 96; refine (wholeRoot_any (sq wd r) (by omega) (by omega) _).mono ?_; rintro e w' ⟨rfl, rfl⟩) | (go_at_call 94; refine (oneIf_any _ _).mono ?_; rintro e w' ⟨rfl, rfl⟩))
      exact bodyPost_ret (v := .agg #[.int .i64 3, .int .i64 1, .int .i64 1]) (by simp [results, Try.results89, go_sem]) rfl ⟨by simp [vA, vB, hw], (by repeat (first | exact Below.refl _ _ | refine bl_alloc ?_ _ | refine bl_drewN ?_ _ | refine bl_trans (by assumption) ?_ | refine bl_set ?_ (by first | omega | (simp; done) | (simp; omega)) _))⟩
  ·
    cases hw : whole (sq wd l)
    · go_enter Try.func89, Try.ntmps89
      go_wp2_with (first | (go_at_call 97; refine (squareOfLength_any _ _ (by omega) (by omega) (by omega) (by omega) _).mono ?_; rintro e w' ⟨rfl, rfl⟩) | (go_at_call 96; refine (wholeRoot_any (sq wd l) (by omega) (by omega) _).mono ?_; rintro e w' ⟨rfl, rfl⟩) | (go_at_call 94; refine (oneIf_any _ _).mono ?_; rintro e w' ⟨rfl, rfl⟩))
      exact bodyPost_ret (v := .agg #[.int .i64 3, .int .i64 a, .int .i64 0]) (by simp [results, Try.results89, go_sem]) rfl ⟨by simp [vA, vB, hw, ha], (by repeat (first | exact Below.refl _ _ | refine bl_alloc ?_ _ | refine bl_drewN ?_ _ | refine bl_trans (by assumption) ?_ | refine bl_set ?_ (by first | omega | (simp; done) | (simp; omega)) _))⟩
    · go_enter Try.func89, Try.ntmps89
      go_wp2_with (first | (go_at_call 97; refine (squareOfLength_any _ _ (by omega) (by omega) (by omega) (by omega) _).mono ?_; rintro e w' ⟨rfl, rfl⟩) | (go_at_call 96; refine (wholeRoot_any (sq wd l) (by omega) (by omega) _).mono ?_; rintro e w' ⟨rfl, rfl⟩) | (go_at_call 94; refine (oneIf_any _ _).mono ?_; rintro e w' ⟨rfl, rfl⟩))
      exact bodyPost_ret (v := .agg #[.int .i64 3, .int .i64 a, .int .i64 1]) (by simp [results, Try.results89, go_sem]) rfl ⟨by simp [vA, vB, hw, ha], (by repeat (first | exact Below.refl _ _ | refine bl_alloc ?_ _ | refine bl_drewN ?_ _ | refine bl_trans (by assumption) ?_ | refine bl_set ?_ (by first | omega | (simp; done) | (simp; omega)) _))⟩
set_option maxHeartbeats 800000 in
theorem clueOf_4 (a wd l r : Int) (h : okH wd l r = true) (w : World) :
    Calls Try.prog 89 #[.agg #[.int .i64 wd, .int .i64 l, .int .i64 r], .int .i64 4, .int .i64 a] w fun e w' => e = .returned (.agg #[.int .i64 4, .int .i64 (vA 4 a wd l r), .int .i64 (vB 4 a wd l r)]) ∧ Below w.heap.size w w' := by
  obtain ⟨⟨w0, w1⟩, ⟨l0, l1⟩, r0, r1⟩ := okH_bd h
  go_enter Try.func89, Try.ntmps89
  go_wp2_with fail
  refine (impl_CrossPlace _ _ _ _).mono ?_
  rintro e w1 ⟨rfl, hbw1⟩
  obtain ⟨hcw1, hfw1⟩ := bcell hbw1
  have hzw1 := bsize hbw1
  (try simp only [World.size_alloc, World.size_setCell] at hzw1)
  have kw1_0_0 : w1.cell? ⟨w.heap.size + 1, 0, none⟩ = some (.int .i64 0) := by rw [hcw1 _ _ (by first | (simp; done) | omega | (simp; omega))]; first | assumption | (simp [go_sem]; done) | (simp [go_sem]; done) | (simp [go_sem, *]; done)
  have fw1_0_0 : w1.frozen? ⟨w.heap.size + 1, 0, none⟩ = false := by rw [hfw1 _ _ (by first | (simp; done) | omega | (simp; omega))]; first | assumption | (simp [go_sem]; done) | (simp [go_sem]; done) | (simp [go_sem, *]; done)
  have kw1_0_1 : w1.cell? ⟨w.heap.size + 1, 1, none⟩ = some (.int .i64 0) := by rw [hcw1 _ _ (by first | (simp; done) | omega | (simp; omega))]; first | assumption | (simp [go_sem]; done) | (simp [go_sem]; done) | (simp [go_sem, *]; done)
  have fw1_0_1 : w1.frozen? ⟨w.heap.size + 1, 1, none⟩ = false := by rw [hfw1 _ _ (by first | (simp; done) | omega | (simp; omega))]; first | assumption | (simp [go_sem]; done) | (simp [go_sem]; done) | (simp [go_sem, *]; done)
  have kw1_0_2 : w1.cell? ⟨w.heap.size + 1, 2, none⟩ = some (.int .i64 0) := by rw [hcw1 _ _ (by first | (simp; done) | omega | (simp; omega))]; first | assumption | (simp [go_sem]; done) | (simp [go_sem]; done) | (simp [go_sem, *]; done)
  have fw1_0_2 : w1.frozen? ⟨w.heap.size + 1, 2, none⟩ = false := by rw [hfw1 _ _ (by first | (simp; done) | omega | (simp; omega))]; first | assumption | (simp [go_sem]; done) | (simp [go_sem]; done) | (simp [go_sem, *]; done)
  have sw1_0 : w.heap.size + 1 < w1.heap.size := by first | omega | (simp at *; omega)
  have kw1_1_0 : w1.cell? ⟨w.heap.size + 1 + 1, 0, none⟩ = some (.int .i64 4) := by rw [hcw1 _ _ (by first | (simp; done) | omega | (simp; omega))]; first | assumption | (simp [go_sem]; done) | (simp [go_sem]; done) | (simp [go_sem, *]; done)
  have fw1_1_0 : w1.frozen? ⟨w.heap.size + 1 + 1, 0, none⟩ = false := by rw [hfw1 _ _ (by first | (simp; done) | omega | (simp; omega))]; first | assumption | (simp [go_sem]; done) | (simp [go_sem]; done) | (simp [go_sem, *]; done)
  have kw1_1_1 : w1.cell? ⟨w.heap.size + 1 + 1, 1, none⟩ = some (.int .i64 0) := by rw [hcw1 _ _ (by first | (simp; done) | omega | (simp; omega))]; first | assumption | (simp [go_sem]; done) | (simp [go_sem]; done) | (simp [go_sem, *]; done)
  have fw1_1_1 : w1.frozen? ⟨w.heap.size + 1 + 1, 1, none⟩ = false := by rw [hfw1 _ _ (by first | (simp; done) | omega | (simp; omega))]; first | assumption | (simp [go_sem]; done) | (simp [go_sem]; done) | (simp [go_sem, *]; done)
  have kw1_1_2 : w1.cell? ⟨w.heap.size + 1 + 1, 2, none⟩ = some (.int .i64 0) := by rw [hcw1 _ _ (by first | (simp; done) | omega | (simp; omega))]; first | assumption | (simp [go_sem]; done) | (simp [go_sem]; done) | (simp [go_sem, *]; done)
  have fw1_1_2 : w1.frozen? ⟨w.heap.size + 1 + 1, 2, none⟩ = false := by rw [hfw1 _ _ (by first | (simp; done) | omega | (simp; omega))]; first | assumption | (simp [go_sem]; done) | (simp [go_sem]; done) | (simp [go_sem, *]; done)
  have sw1_1 : w.heap.size + 1 + 1 < w1.heap.size := by first | omega | (simp at *; omega)
  have hBw1 : Below w.heap.size w w1 := (by repeat (first | exact Below.refl _ _ | refine bl_alloc ?_ _ | refine bl_drewN ?_ _ | refine bl_trans (by assumption) ?_ | refine bl_set ?_ (by first | omega | (simp; done) | (simp; omega)) _))
  have HBw1 := Lib.hid hBw1
  clear hBw1 hcw1 hfw1 hbw1
  rw [CP_H h, CP_H h]
  go_wp2
  exact bodyPost_ret (v := .agg #[.int .i64 4, .int .i64 (ln (wd * l) (l + r)), .int .i64 (ld (wd * l) (l + r))]) (by simp [results, Try.results89, go_sem, kw1_0_0, kw1_0_1, kw1_0_2, fw1_0_0, fw1_0_1, fw1_0_2, kw1_1_0, kw1_1_1, kw1_1_2, fw1_1_0, fw1_1_1, fw1_1_2]) rfl ⟨by simp [vA, vB], (by repeat (first | refine bl_set ?_ (by first | omega | (simp; done) | (simp; omega)) _ | exact HBw1.out))⟩
set_option maxHeartbeats 800000 in
theorem clueOf_5 (a wd l r : Int) (h : okH wd l r = true) (w : World) :
    Calls Try.prog 89 #[.agg #[.int .i64 wd, .int .i64 l, .int .i64 r], .int .i64 5, .int .i64 a] w fun e w' => e = .returned (.agg #[.int .i64 5, .int .i64 (vA 5 a wd l r), .int .i64 (vB 5 a wd l r)]) ∧ Below w.heap.size w w' := by
  obtain ⟨⟨w0, w1⟩, ⟨l0, l1⟩, r0, r1⟩ := okH_bd h
  obtain ⟨f1, f2⟩ := mul_bd (a := l) (b := r) (m := 12) (by omega) (by omega) l1 r1
  go_enter Try.func89, Try.ntmps89
  go_wp2
  exact bodyPost_ret (v := .agg #[.int .i64 5, .int .i64 0, .int .i64 (l * r)]) (by simp [results, Try.results89, go_sem]) rfl ⟨by simp [vA, vB], (by repeat (first | exact Below.refl _ _ | refine bl_alloc ?_ _ | refine bl_drewN ?_ _ | refine bl_trans (by assumption) ?_ | refine bl_set ?_ (by first | omega | (simp; done) | (simp; omega)) _))⟩
theorem clueOf_any (k a wd l r : Int) (hk : k = 0 ∨ k = 1 ∨ k = 2 ∨ k = 3 ∨ k = 4 ∨ k = 5) (h : okH wd l r = true) (w : World) :
    Calls Try.prog 89 #[.agg #[.int .i64 wd, .int .i64 l, .int .i64 r], .int .i64 k, .int .i64 a] w fun e w' => e = .returned (.agg #[.int .i64 k, .int .i64 (vA k a wd l r), .int .i64 (vB k a wd l r)]) ∧ Below w.heap.size w w' := by
  rcases hk with rfl | rfl | rfl | rfl | rfl | rfl
  · exact clueOf_0 a wd l r h w
  · exact clueOf_1 a wd l r h w
  · exact clueOf_2 a wd l r h w
  · exact clueOf_3 a wd l r h w
  · exact clueOf_4 a wd l r h w
  · exact clueOf_5 a wd l r h w
set_option maxHeartbeats 800000 in
theorem pzValue_0 (a wd l r : Int) (h : okH wd l r = true) (w : World) :
    Calls Try.prog 93 #[.int .i64 0, .int .i64 a, .agg #[.int .i64 wd, .int .i64 l, .int .i64 r]] w fun e w' => e = .returned (.tuple #[.int .i64 (a), .int .i64 (vB 0 a wd l r)]) ∧ Below w.heap.size w w' := by
  obtain ⟨⟨w0, w1⟩, ⟨l0, l1⟩, r0, r1⟩ := okH_bd h
  go_enter Try.func93, Try.ntmps93
  go_wp2
  go_ret2
  exact ⟨by simp [vA, vB], (by repeat (first | exact Below.refl _ _ | refine bl_alloc ?_ _ | refine bl_drewN ?_ _ | refine bl_trans (by assumption) ?_ | refine bl_set ?_ (by first | omega | (simp; done) | (simp; omega)) _))⟩
set_option maxHeartbeats 800000 in
theorem pzValue_1 (a wd l r : Int) (h : okH wd l r = true) (w : World) :
    Calls Try.prog 93 #[.int .i64 1, .int .i64 a, .agg #[.int .i64 wd, .int .i64 l, .int .i64 r]] w fun e w' => e = .returned (.tuple #[.int .i64 (a), .int .i64 (vB 1 a wd l r)]) ∧ Below w.heap.size w w' := by
  obtain ⟨⟨w0, w1⟩, ⟨l0, l1⟩, r0, r1⟩ := okH_bd h
  by_cases hlr : r < l
  · go_enter Try.func93, Try.ntmps93
    go_wp2
    go_ret2
    exact ⟨by simp [vA, vB, hlr], (by repeat (first | exact Below.refl _ _ | refine bl_alloc ?_ _ | refine bl_drewN ?_ _ | refine bl_trans (by assumption) ?_ | refine bl_set ?_ (by first | omega | (simp; done) | (simp; omega)) _))⟩
  · go_enter Try.func93, Try.ntmps93
    go_wp2
    go_ret2
    exact ⟨by simp [vA, vB, hlr], (by repeat (first | exact Below.refl _ _ | refine bl_alloc ?_ _ | refine bl_drewN ?_ _ | refine bl_trans (by assumption) ?_ | refine bl_set ?_ (by first | omega | (simp; done) | (simp; omega)) _))⟩
set_option maxHeartbeats 800000 in
theorem pzValue_2 (a wd l r : Int) (h : okH wd l r = true) (w : World) :
    Calls Try.prog 93 #[.int .i64 2, .int .i64 a, .agg #[.int .i64 wd, .int .i64 l, .int .i64 r]] w fun e w' => e = .returned (.tuple #[.int .i64 (vA 2 a wd l r), .int .i64 (vB 2 a wd l r)]) ∧ Below w.heap.size w w' := by
  obtain ⟨⟨w0, w1⟩, ⟨l0, l1⟩, r0, r1⟩ := okH_bd h
  obtain ⟨f1, f2⟩ := mul_bd (a := l) (b := r) (m := 12) (by omega) (by omega) (by omega) (by omega)
  go_enter Try.func93, Try.ntmps93
  go_wp2_with (go_at_call 99; refine (clLow_any (l * r) (l + r) (by omega) (by omega) (by omega) (by omega) _).mono ?_; rintro e w' ⟨rfl, nn, rfl⟩)
  go_ret2
  exact ⟨by simp [vA, vB], (by repeat (first | exact Below.refl _ _ | refine bl_alloc ?_ _ | refine bl_drewN ?_ _ | refine bl_trans (by assumption) ?_ | refine bl_set ?_ (by first | omega | (simp; done) | (simp; omega)) _))⟩
set_option maxHeartbeats 800000 in
theorem pzValue_3 (a wd l r : Int) (h : okH wd l r = true) (w : World) :
    Calls Try.prog 93 #[.int .i64 3, .int .i64 a, .agg #[.int .i64 wd, .int .i64 l, .int .i64 r]] w fun e w' => e = .returned (.tuple #[.int .i64 (a), .int .i64 (vB 3 a wd l r)]) ∧ Below w.heap.size w w' := by
  obtain ⟨⟨w0, w1⟩, ⟨l0, l1⟩, r0, r1⟩ := okH_bd h
  have q1 := sq_bd (a := wd) (b := l) (by omega) (by omega) (by omega) (by omega)
  have q2 := sq_bd (a := wd) (b := r) (by omega) (by omega) (by omega) (by omega)
  have hL := okH_L h
  by_cases ha : a = 1
  · subst ha
    obtain ⟨g1, g2, g3⟩ := rt_facts q2.2.2.1
    have g4 : 0 ≤ rt (sq wd r) * rt (sq wd r) := Int.mul_nonneg g1 g1
    have g6 := q2.2.2.2
    clear g3 q1 q2
    have hw : whole (sq wd r) = (rt (sq wd r) * rt (sq wd r) == sq wd r) := rfl
    have HW := Lib.hid hw
    clear hw
    by_cases g5 : rt (sq wd r) * rt (sq wd r) = sq wd r
    · go_enter Try.func93, Try.ntmps93
      go_wp2_with (first | (go_at_call 100; refine (clSquares_any _ _ _ hL _).mono ?_; rintro e w1 ⟨rfl, hb⟩; obtain ⟨hc, hf⟩ := bcell hb; have hz := bsize hb; (try simp only [World.size_alloc, World.size_setCell] at hz); (try have hz0 : w.heap.size < w1.heap.size := by omega)) | (go_at_call 101; refine (clRoot_any (sq wd r) (by omega) (by omega) _).mono ?_; rintro e w' ⟨rfl, rfl⟩))
      go_ret2
      exact ⟨by simp [vA, vB, HW.out, g5], (by repeat (first | exact Below.refl _ _ | refine bl_alloc ?_ _ | refine bl_drewN ?_ _ | refine bl_trans (by assumption) ?_ | refine bl_set ?_ (by first | omega | (simp; done) | (simp; omega)) _))⟩
    · go_enter Try.func93, Try.ntmps93
      go_wp2_with (first | (go_at_call 100; refine (clSquares_any _ _ _ hL _).mono ?_; rintro e w1 ⟨rfl, hb⟩; obtain ⟨hc, hf⟩ := bcell hb; have hz := bsize hb; (try simp only [World.size_alloc, World.size_setCell] at hz); (try have hz0 : w.heap.size < w1.heap.size := by omega)) | (go_at_call 101; refine (clRoot_any (sq wd r) (by omega) (by omega) _).mono ?_; rintro e w' ⟨rfl, rfl⟩))
      go_ret2
      exact ⟨by simp [vA, vB, HW.out, g5], (by repeat (first | exact Below.refl _ _ | refine bl_alloc ?_ _ | refine bl_drewN ?_ _ | refine bl_trans (by assumption) ?_ | refine bl_set ?_ (by first | omega | (simp; done) | (simp; omega)) _))⟩
  · obtain ⟨g1, g2, g3⟩ := rt_facts q1.2.2.1
    have g4 : 0 ≤ rt (sq wd l) * rt (sq wd l) := Int.mul_nonneg g1 g1
    have g6 := q1.2.2.2
    clear g3 q1 q2
    have hw : whole (sq wd l) = (rt (sq wd l) * rt (sq wd l) == sq wd l) := rfl
    have HW := Lib.hid hw
    clear hw
    by_cases g5 : rt (sq wd l) * rt (sq wd l) = sq wd l
    · go_enter Try.func93, Try.ntmps93
      go_wp2_with (first | (go_at_call 100; refine (clSquares_any _ _ _ hL _).mono ?_; rintro e w1 ⟨rfl, hb⟩; obtain ⟨hc, hf⟩ := bcell hb; have hz := bsize hb; (try simp only [World.size_alloc, World.size_setCell] at hz); (try have hz0 : w.heap.size < w1.heap.size := by omega)) | (go_at_call 101; refine (clRoot_any (sq wd l) (by omega) (by omega) _).mono ?_; rintro e w' ⟨rfl, rfl⟩))
      go_ret2
      exact ⟨by simp [vA, vB, HW.out, g5, ha], (by repeat (first | exact Below.refl _ _ | refine bl_alloc ?_ _ | refine bl_drewN ?_ _ | refine bl_trans (by assumption) ?_ | refine bl_set ?_ (by first | omega | (simp; done) | (simp; omega)) _))⟩
    · go_enter Try.func93, Try.ntmps93
      go_wp2_with (first | (go_at_call 100; refine (clSquares_any _ _ _ hL _).mono ?_; rintro e w1 ⟨rfl, hb⟩; obtain ⟨hc, hf⟩ := bcell hb; have hz := bsize hb; (try simp only [World.size_alloc, World.size_setCell] at hz); (try have hz0 : w.heap.size < w1.heap.size := by omega)) | (go_at_call 101; refine (clRoot_any (sq wd l) (by omega) (by omega) _).mono ?_; rintro e w' ⟨rfl, rfl⟩))
      go_ret2
      exact ⟨by simp [vA, vB, HW.out, g5, ha], (by repeat (first | exact Below.refl _ _ | refine bl_alloc ?_ _ | refine bl_drewN ?_ _ | refine bl_trans (by assumption) ?_ | refine bl_set ?_ (by first | omega | (simp; done) | (simp; omega)) _))⟩
set_option maxHeartbeats 800000 in
theorem pzValue_4 (a wd l r : Int) (h : okH wd l r = true) (w : World) :
    Calls Try.prog 93 #[.int .i64 4, .int .i64 a, .agg #[.int .i64 wd, .int .i64 l, .int .i64 r]] w fun e w' => e = .returned (.tuple #[.int .i64 (vA 4 a wd l r), .int .i64 (vB 4 a wd l r)]) ∧ Below w.heap.size w w' := by
  obtain ⟨⟨w0, w1⟩, ⟨l0, l1⟩, r0, r1⟩ := okH_bd h
  obtain ⟨f1, f2⟩ := mul_bd (a := wd) (b := l) (m := 12) (by omega) (by omega) (by omega) (by omega)
  go_enter Try.func93, Try.ntmps93
  go_wp2_with (go_at_call 99; refine (clLow_any (wd * l) (l + r) (by omega) (by omega) (by omega) (by omega) _).mono ?_; rintro e w' ⟨rfl, nn, rfl⟩)
  go_ret2
  exact ⟨by simp [vA, vB], (by repeat (first | exact Below.refl _ _ | refine bl_alloc ?_ _ | refine bl_drewN ?_ _ | refine bl_trans (by assumption) ?_ | refine bl_set ?_ (by first | omega | (simp; done) | (simp; omega)) _))⟩
set_option maxHeartbeats 800000 in
theorem pzValue_5 (a wd l r : Int) (h : okH wd l r = true) (w : World) :
    Calls Try.prog 93 #[.int .i64 5, .int .i64 a, .agg #[.int .i64 wd, .int .i64 l, .int .i64 r]] w fun e w' => e = .returned (.tuple #[.int .i64 (a), .int .i64 (vB 5 a wd l r)]) ∧ Below w.heap.size w w' := by
  obtain ⟨⟨w0, w1⟩, ⟨l0, l1⟩, r0, r1⟩ := okH_bd h
  obtain ⟨f1, f2⟩ := mul_bd (a := l) (b := r) (m := 12) (by omega) (by omega) (by omega) (by omega)
  go_enter Try.func93, Try.ntmps93
  go_wp2
  go_ret2
  exact ⟨by simp [vA, vB], (by repeat (first | exact Below.refl _ _ | refine bl_alloc ?_ _ | refine bl_drewN ?_ _ | refine bl_trans (by assumption) ?_ | refine bl_set ?_ (by first | omega | (simp; done) | (simp; omega)) _))⟩
theorem pzValue_any (k a wd l r : Int) (hk : k = 0 ∨ k = 1 ∨ k = 2 ∨ k = 3 ∨ k = 4 ∨ k = 5) (ha : (k = 0 ∨ k = 1 ∨ k = 5) → a = 0) (h : okH wd l r = true) (w : World) :
    Calls Try.prog 93 #[.int .i64 k, .int .i64 a, .agg #[.int .i64 wd, .int .i64 l, .int .i64 r]] w fun e w' => e = .returned (.tuple #[.int .i64 (vA k a wd l r), .int .i64 (vB k a wd l r)]) ∧ Below w.heap.size w w' := by
  rcases hk with rfl | rfl | rfl | rfl | rfl | rfl
  · obtain rfl := ha (by simp); exact pzValue_0 0 wd l r h w
  · obtain rfl := ha (by simp); exact pzValue_1 0 wd l r h w
  · exact pzValue_2 a wd l r h w
  · exact pzValue_3 a wd l r h w
  · exact pzValue_4 a wd l r h w
  · obtain rfl := ha (by simp); exact pzValue_5 0 wd l r h w
set_option maxHeartbeats 800000 in
theorem pzFits_any (k a b wd l r : Int) (hk : okK k a b = true) (h : okH wd l r = true) (w : World) :
    Calls Try.prog 71 #[.agg #[.int .i64 k, .int .i64 a, .int .i64 b], .agg #[.int .i64 wd, .int .i64 l, .int .i64 r]] w fun e w' => e = .returned (.bool (fitK k a b wd l r)) ∧ Below w.heap.size w w' := by
  have Hc := fun W => Lib.hid (pzValue_any k a wd l r (okK_kind hk) (okK_bd hk).2.2.2.2.1 h W)
  have E := Lib.hid (show fitK k a b wd l r = (decide (vA k a wd l r = a) && decide (vB k a wd l r = b)) from rfl)
  generalize vA k a wd l r = x at *
  generalize vB k a wd l r = y at *
  generalize fitK k a b wd l r = z at *
  clear hk h
  by_cases hx : x = a
  all_goals
    go_enter Try.func71, Try.ntmps71
    go_wp2_with (go_at_call 93; refine ((Hc _).out).mono ?_; rintro e w1 ⟨rfl, hb⟩; obtain ⟨hc, hf⟩ := bcell hb; have hz := bsize hb; (try simp only [World.size_alloc, World.size_setCell] at hz); (try have hz0 : w.heap.size < w1.heap.size := by omega); (try have hz1 : w.heap.size + 1 < w1.heap.size := by omega))
    go_ret
    exact ⟨bool_ret (by rw [E.out]; simp [hx]), (by repeat (first | exact Below.refl _ _ | refine bl_alloc ?_ _ | refine bl_drewN ?_ _ | refine bl_trans (by assumption) ?_ | refine bl_set ?_ (by first | omega | (simp; done) | (simp; omega)) _))⟩
theorem FA_after {w u v : World} {B g : Nat} {a0 a1 a2 c0 c1 c2 : Value} (hb : Below u.heap.size u v)
    (h : u.cell? ⟨B, 0, none⟩ = some a0 ∧ u.cell? ⟨B, 1, none⟩ = some a1 ∧ u.cell? ⟨B, 2, none⟩ = some a2 ∧ u.cell? ⟨g, 0, none⟩ = some c0 ∧ u.cell? ⟨g, 1, none⟩ = some c1 ∧ u.cell? ⟨g, 2, none⟩ = some c2 ∧ B < u.heap.size ∧ g < u.heap.size ∧ Below w.heap.size w u) :
    v.cell? ⟨B, 0, none⟩ = some a0 ∧ v.cell? ⟨B, 1, none⟩ = some a1 ∧ v.cell? ⟨B, 2, none⟩ = some a2 ∧ v.cell? ⟨g, 0, none⟩ = some c0 ∧ v.cell? ⟨g, 1, none⟩ = some c1 ∧ v.cell? ⟨g, 2, none⟩ = some c2 ∧ B < v.heap.size ∧ g < v.heap.size ∧ Below w.heap.size w v := by
  obtain ⟨g0, g1, g2, g3, g4, g5, h5, h6, h7⟩ := h
  refine ⟨?_, ?_, ?_, ?_, ?_, ?_, Nat.lt_of_lt_of_le h5 hb.size, Nat.lt_of_lt_of_le h6 hb.size, bl_trans hb h7⟩
  all_goals (first | rw [(bcell hb).1 _ _ h5] | rw [(bcell hb).1 _ _ h6]) <;> assumption
set_option maxHeartbeats 1600000 in
theorem fitsAll_any (v : Value) (n : Nat) (f : Nat → Int) (wd l r : Int) (w : World) (hp : PClu w v n f) (hk : okCs n f = true) (h : okH wd l r = true) :
    Calls Try.prog 73 #[v, .agg #[.int .i64 wd, .int .i64 l, .int .i64 r]] w fun e w' => e = .returned (.bool (fits n f wd l r)) ∧ Below w.heap.size w w' := by
  have hl := hp.len_le
  obtain ⟨a, c, rfl⟩ := hp.shape
  have HH := Lib.hid hp
  have HKS := Lib.hid hk
  have HO := Lib.hid h
  have HB0 := Lib.hid (show Below w.heap.size w (w.alloc (.cells #[.int .i64 wd, .int .i64 l, .int .i64 r] 43)) from (by repeat (first | exact Below.refl _ _ | refine bl_alloc ?_ _ | refine bl_drewN ?_ _ | refine bl_trans (by assumption) ?_ | refine bl_set ?_ (by first | omega | (simp; done) | (simp; omega)) _)))
  clear hp hk h
  go_enter Try.func73, Try.ntmps73
  go_wp2
  go_loopw [9] (fun i wr => ∃ j : Nat, j ≤ n ∧ i = .int .i64 (j : Int) ∧ fits j f wd l r = true ∧ wr.cell? ⟨w.heap.size, 0, none⟩ = some (.int .i64 wd) ∧ wr.cell? ⟨w.heap.size, 1, none⟩ = some (.int .i64 l) ∧ wr.cell? ⟨w.heap.size, 2, none⟩ = some (.int .i64 r) ∧ w.heap.size < wr.heap.size ∧ Below w.heap.size w wr) (fun i _ => n - (intOf i).toNat)
  case atStart => exact ⟨0, Nat.zero_le _, rfl, rfl, by simp [go_sem], by simp [go_sem], by simp [go_sem], by simp, HB0.out⟩
  case round =>
    obtain ⟨j, hj, rfl, hok, l0, l1, l2, hsz, hW⟩ := hrel
    have HK := Lib.hid hok
    have HW := Lib.hid hW
    clear hok hW
    by_cases hlt : j < n
    · obtain ⟨b, off, cap, hv, hb, g1⟩ := (HH.out.keep HW.out).some_ (by omega)
      simp only [Value.slice.injEq, true_and] at hv
      obtain ⟨rfl, rfl⟩ := hv
      obtain ⟨p0, p1, p2⟩ := g1 j hlt
      have hlt' : (j : Int) < (n : Int) := by omega
      clear g1
      have hkk := okCs_get HKS.out hlt
      have Hc := fun W => Lib.hid (clueOf_any (f (j * 3)) (f (j * 3 + 1)) wd l r (okK_kind hkk) HO.out W)
      have E := Lib.hid (show fitK (f (j * 3)) (f (j * 3 + 1)) (f (j * 3 + 2)) wd l r = (decide (vA (f (j * 3)) (f (j * 3 + 1)) wd l r = f (j * 3 + 1)) && decide (vB (f (j * 3)) (f (j * 3 + 1)) wd l r = f (j * 3 + 2))) from rfl)
      have FS := Lib.hid (fits_succ j f wd l r)
      have FF := Lib.hid (@fits_false n f wd l r j hlt)
      clear hkk
      generalize fitK (f (j * 3)) (f (j * 3 + 1)) (f (j * 3 + 2)) wd l r = z at *
      generalize vA (f (j * 3)) (f (j * 3 + 1)) wd l r = x at *
      generalize vB (f (j * 3)) (f (j * 3 + 1)) wd l r = y at *
      generalize f (j * 3) = fk at *
      generalize f (j * 3 + 1) = fa at *
      generalize f (j * 3 + 2) = fb at *
      have hS := (⟨by rw [(bcell (bl_alloc (Below.refl _ wr) _)).1 _ _ hsz]; exact l0, by rw [(bcell (bl_alloc (Below.refl _ wr) _)).1 _ _ hsz]; exact l1, by rw [(bcell (bl_alloc (Below.refl _ wr) _)).1 _ _ hsz]; exact l2, by simp [go_sem], by simp [go_sem], by simp [go_sem], by simp; omega, by simp, bl_alloc HW.out _⟩ :
        (wr.alloc (.cells #[.int .i64 fk, .int .i64 fa, .int .i64 fb] 25)).cell? ⟨w.heap.size, 0, none⟩ = some (.int .i64 wd) ∧ (wr.alloc (.cells #[.int .i64 fk, .int .i64 fa, .int .i64 fb] 25)).cell? ⟨w.heap.size, 1, none⟩ = some (.int .i64 l) ∧ (wr.alloc (.cells #[.int .i64 fk, .int .i64 fa, .int .i64 fb] 25)).cell? ⟨w.heap.size, 2, none⟩ = some (.int .i64 r) ∧
        (wr.alloc (.cells #[.int .i64 fk, .int .i64 fa, .int .i64 fb] 25)).cell? ⟨wr.heap.size, 0, none⟩ = some (.int .i64 fk) ∧ (wr.alloc (.cells #[.int .i64 fk, .int .i64 fa, .int .i64 fb] 25)).cell? ⟨wr.heap.size, 1, none⟩ = some (.int .i64 fa) ∧ (wr.alloc (.cells #[.int .i64 fk, .int .i64 fa, .int .i64 fb] 25)).cell? ⟨wr.heap.size, 2, none⟩ = some (.int .i64 fb) ∧
        w.heap.size < (wr.alloc (.cells #[.int .i64 fk, .int .i64 fa, .int .i64 fb] 25)).heap.size ∧ wr.heap.size < (wr.alloc (.cells #[.int .i64 fk, .int .i64 fa, .int .i64 fb] 25)).heap.size ∧ Below w.heap.size w (wr.alloc (.cells #[.int .i64 fk, .int .i64 fa, .int .i64 fb] 25)))
      by_cases hx : x = fa
      · by_cases hy : y = fb
        · have hz : z = true := by rw [E.out]; simp [hx, hy]
          subst hz
          subst hx
          subst hy
          clear E
          go_wp2_with fail
          go_region_held3 (fun w' => w'.cell? ⟨w.heap.size, 0, none⟩ = some (.int .i64 wd) ∧ w'.cell? ⟨w.heap.size, 1, none⟩ = some (.int .i64 l) ∧ w'.cell? ⟨w.heap.size, 2, none⟩ = some (.int .i64 r) ∧ w'.cell? ⟨wr.heap.size, 0, none⟩ = some (.int .i64 fk) ∧ w'.cell? ⟨wr.heap.size, 1, none⟩ = some (.int .i64 x) ∧ w'.cell? ⟨wr.heap.size, 2, none⟩ = some (.int .i64 y) ∧ w.heap.size < w'.heap.size ∧ wr.heap.size < w'.heap.size ∧ Below w.heap.size w w') (first | exact FA_after hb3 (by assumption) | exact FA_after (below_drewN (Below.refl _ _) _) (by assumption) | exact FA_after (Below.drew (Below.refl _ _)) (by assumption) | assumption) (first | (go_at_call 89; refine ((Hc _).out).mono ?_; rintro e w3 ⟨rfl, hb3⟩) | fail)
          go_wp2
          rename_i hh
          exact ⟨⟨j + 1, by omega, by go_num, by rw [FS.out, HK.out]; rfl, hh.1, hh.2.1, hh.2.2.1, hh.2.2.2.2.2.2.1, hh.2.2.2.2.2.2.2.2⟩, by simp only [intOf]; omega⟩
        · have hz : z = false := by rw [E.out]; simp [hy]
          subst hz
          subst hx
          have F2 := Lib.hid (FF.out rfl)
          clear E FF
          go_wp2_with fail
          go_region_held3 (fun w' => w'.cell? ⟨w.heap.size, 0, none⟩ = some (.int .i64 wd) ∧ w'.cell? ⟨w.heap.size, 1, none⟩ = some (.int .i64 l) ∧ w'.cell? ⟨w.heap.size, 2, none⟩ = some (.int .i64 r) ∧ w'.cell? ⟨wr.heap.size, 0, none⟩ = some (.int .i64 fk) ∧ w'.cell? ⟨wr.heap.size, 1, none⟩ = some (.int .i64 x) ∧ w'.cell? ⟨wr.heap.size, 2, none⟩ = some (.int .i64 fb) ∧ w.heap.size < w'.heap.size ∧ wr.heap.size < w'.heap.size ∧ Below w.heap.size w w') (first | exact FA_after hb3 (by assumption) | exact FA_after (below_drewN (Below.refl _ _) _) (by assumption) | exact FA_after (Below.drew (Below.refl _ _)) (by assumption) | assumption) (first | (go_at_call 89; refine ((Hc _).out).mono ?_; rintro e w3 ⟨rfl, hb3⟩) | fail)
          go_wp2
          rename_i hh
          go_ret
          exact ⟨by rw [F2.out]; rfl, hh.2.2.2.2.2.2.2.2⟩
      · have hz : z = false := by rw [E.out]; simp [hx]
        subst hz
        have F2 := Lib.hid (FF.out rfl)
        clear E FF
        go_wp2_with fail
        go_region_held3 (fun w' => w'.cell? ⟨w.heap.size, 0, none⟩ = some (.int .i64 wd) ∧ w'.cell? ⟨w.heap.size, 1, none⟩ = some (.int .i64 l) ∧ w'.cell? ⟨w.heap.size, 2, none⟩ = some (.int .i64 r) ∧ w'.cell? ⟨wr.heap.size, 0, none⟩ = some (.int .i64 fk) ∧ w'.cell? ⟨wr.heap.size, 1, none⟩ = some (.int .i64 fa) ∧ w'.cell? ⟨wr.heap.size, 2, none⟩ = some (.int .i64 fb) ∧ w.heap.size < w'.heap.size ∧ wr.heap.size < w'.heap.size ∧ Below w.heap.size w w') (first | exact FA_after hb3 (by assumption) | exact FA_after (below_drewN (Below.refl _ _) _) (by assumption) | exact FA_after (Below.drew (Below.refl _ _)) (by assumption) | assumption) (first | (go_at_call 89; refine ((Hc _).out).mono ?_; rintro e w3 ⟨rfl, hb3⟩) | fail)
        go_wp2
        rename_i hh
        go_ret
        exact ⟨by rw [F2.out]; rfl, hh.2.2.2.2.2.2.2.2⟩
    · obtain rfl : j = n := by omega
      go_wp2
      go_ret
      exact ⟨by rw [HK.out]; rfl, HW.out⟩
end Go.Proofs.Ytgghceckpdfogaa

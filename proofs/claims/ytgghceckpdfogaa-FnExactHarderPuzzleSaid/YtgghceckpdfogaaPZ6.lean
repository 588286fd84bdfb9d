/- Solutions of puzzles, by the program and by the model. -/
import Derived.Test.YtgghceckpdfogaaPZ5
namespace Go.Proofs.Ytgghceckpdfogaa
open Go.RowKit
set_option linter.unusedVariables false
set_option linter.unusedSimpArgs false
def solN (wd : Int) (n : Nat) (f : Nat → Int) : Nat := if okP wd n f then cnt n f wd else 0
def solL (wd : Int) (n : Nat) (f : Nat → Int) : List Int := if okP wd n f then flat wd (sol n f wd 144) else []
theorem solN_yes {wd : Int} {n : Nat} {f : Nat → Int} (h : okP wd n f = true) : solN wd n f = cnt n f wd := by rw [solN, h]; rfl
theorem solN_no {wd : Int} {n : Nat} {f : Nat → Int} (h : okP wd n f = false) : solN wd n f = 0 := by rw [solN, h]; rfl
theorem solL_yes {wd : Int} {n : Nat} {f : Nat → Int} (h : okP wd n f = true) : solL wd n f = flat wd (sol n f wd 144) := by rw [solL, h]; rfl
theorem solL_no {wd : Int} {n : Nat} {f : Nat → Int} (h : okP wd n f = false) : solL wd n f = [] := by rw [solL, h]; rfl
theorem solN_le (wd : Int) (n : Nat) (f : Nat → Int) : solN wd n f ≤ 144 := by
  unfold solN
  split
  · exact cnt_le _ _ _
  · omega
theorem nat_one (N : Nat) : ((N : Int) == 1) = decide (N = 1) := by rw [Bool.eq_iff_iff]; simp; omega
theorem LLad.shape {w : World} {C n : Nat} {v : Value} {xs : List Int} (h : LLad w C v n xs) : ∃ a c, v = .slice a n c := h.2.toP.shape
set_option maxHeartbeats 800000 in
theorem impl_Solutions (wd : Int) (v : Value) (n : Nat) (f : Nat → Int) (w : World) (h : PClu w v n f) :
    Calls Try.prog 30 #[.agg #[.int .i64 wd, v]] w fun e w' => ∃ u, e = .returned (.tuple #[u, .bool (okP wd n f)]) ∧ LLad w' w.heap.size u (solN wd n f) (solL wd n f) ∧ Below w.heap.size w w' := by
  obtain ⟨a, c, rfl⟩ := h.shape
  have HH := Lib.hid h
  clear h
  cases hk : okP wd n f
  · rw [solN_no hk, solL_no hk]
    go_enter Try.func30, Try.ntmps30
    go_wp2_with (go_at_call 24; refine (impl_IsPuzzle wd _ n f _ (HH.out.keep (by repeat (first | exact Below.refl _ _ | refine bl_alloc ?_ _ | refine bl_drewN ?_ _ | refine bl_trans (by assumption) ?_ | refine bl_set ?_ (by first | omega | (simp; done) | (simp; omega)) _)))).mono ?_; rintro e w2 ⟨rfl, hb2⟩; rw [hk])
    go_ret2
    exact ⟨_, rfl, LLad.nil _ _, (by repeat (first | exact Below.refl _ _ | refine bl_alloc ?_ _ | refine bl_drewN ?_ _ | refine bl_trans (by assumption) ?_ | refine bl_set ?_ (by first | omega | (simp; done) | (simp; omega)) _))⟩
  · rw [solN_yes hk, solL_yes hk]
    obtain ⟨⟨k1, k2⟩, k3, k4⟩ := okP_true hk
    have K4 := Lib.hid k4
    clear k4
    go_enter Try.func30, Try.ntmps30
    go_wp2_with fail
    refine (impl_IsPuzzle wd _ n f _ (HH.out.keep (by repeat (first | exact Below.refl _ _ | refine bl_alloc ?_ _ | refine bl_drewN ?_ _ | refine bl_trans (by assumption) ?_ | refine bl_set ?_ (by first | omega | (simp; done) | (simp; omega)) _)))).mono ?_
    rintro e w1 ⟨rfl, hbw1⟩
    obtain ⟨hcw1, hfw1⟩ := bcell hbw1
    have hzw1 := bsize hbw1
    (try simp only [World.size_alloc, World.size_setCell] at hzw1)
    have kw1_0_0 : w1.cell? ⟨w.heap.size, 0, none⟩ = some (.int .i64 wd) := by rw [hcw1 _ _ (by first | (simp; done) | omega | (simp; omega))]; first | assumption | (simp [go_sem]; done) | (simp [go_sem]; done) | (simp [go_sem, *]; done)
    have kw1_0_1 : w1.cell? ⟨w.heap.size, 1, none⟩ = some (.slice a n c) := by rw [hcw1 _ _ (by first | (simp; done) | omega | (simp; omega))]; first | assumption | (simp [go_sem]; done) | (simp [go_sem]; done) | (simp [go_sem, *]; done)
    have sw1_0 : w.heap.size < w1.heap.size := by first | omega | (simp at *; omega)
    have hBw1 : Below w.heap.size w w1 := (by repeat (first | exact Below.refl _ _ | refine bl_alloc ?_ _ | refine bl_drewN ?_ _ | refine bl_trans (by assumption) ?_ | refine bl_set ?_ (by first | omega | (simp; done) | (simp; omega)) _))
    have HBw1 := Lib.hid hBw1
    clear hBw1 hcw1 hfw1 hbw1
    rw [hk]
    go_wp2_with fail
    refine (allThatFit_any wd _ n f _ (HH.out.keep (by repeat (first | exact Below.refl _ _ | exact HBw1.out | refine bl_alloc ?_ _ | refine bl_drewN ?_ _ | refine bl_trans (by assumption) ?_ | refine bl_set ?_ (by first | omega | (simp; done) | (simp; omega)) _))) K4.out k1 k2).mono ?_
    rintro e w2 ⟨u, rfl, hR, hbw2⟩
    obtain ⟨hcw2, hfw2⟩ := bcell hbw2
    have hzw2 := bsize hbw2
    (try simp only [World.size_alloc, World.size_setCell] at hzw2)
    have hkw2 : Below w1.heap.size w1 w2 := (by repeat (first | exact Below.refl _ _ | refine bl_alloc ?_ _ | refine bl_drewN ?_ _ | refine bl_trans (by assumption) ?_ | refine bl_set ?_ (by first | omega | (simp; done) | (simp; omega)) _))
    have hz_ := bsize HBw1.out
    have R := Lib.hid hR
    clear hR
    have kw2_0_0 : w2.cell? ⟨w.heap.size, 0, none⟩ = some (.int .i64 wd) := cell_after hkw2 sw1_0 kw1_0_0
    have kw2_0_1 : w2.cell? ⟨w.heap.size, 1, none⟩ = some (.slice a n c) := cell_after hkw2 sw1_0 kw1_0_1
    have sw2_0 : w.heap.size < w2.heap.size := size_after hkw2 sw1_0
    have hBw2 : Below w.heap.size w w2 := (by repeat (first | exact HBw1.out | exact Below.refl _ _ | refine bl_alloc ?_ _ | refine bl_drewN ?_ _ | refine bl_trans (by assumption) ?_ | refine bl_set ?_ (by first | omega | (simp; done) | (simp; omega)) _))
    have HBw2 := Lib.hid hBw2
    clear hBw2 hcw2 hfw2 hbw2 hkw2 kw1_0_0 kw1_0_1 sw1_0
    go_wp2
    go_ret2
    exact ⟨_, rfl, R.out.lower (by omega), HBw2.out⟩
set_option maxHeartbeats 800000 in
theorem spec_Solutions (wd : Int) (v : Value) (n : Nat) (f : Nat → Int) (w : World) (h : PClu w v n f) :
    Calls Try.prog 29 #[.agg #[.int .i64 wd, v]] w fun e w' => ∃ u, e = .returned (.tuple #[u, .bool (okP wd n f)]) ∧ LLad w' w.heap.size u (solN wd n f) (solL wd n f) ∧ Below w.heap.size w w' := by
  obtain ⟨a, c, rfl⟩ := h.shape
  have HH := Lib.hid h
  clear h
  cases hk : okP wd n f
  · rw [solN_no hk, solL_no hk]
    go_enter Try.func29, Try.ntmps29
    go_wp2_with (go_at_call 67; refine (pzGood_any wd _ n f _ (HH.out.keep (by repeat (first | exact Below.refl _ _ | refine bl_alloc ?_ _ | refine bl_drewN ?_ _ | refine bl_trans (by assumption) ?_ | refine bl_set ?_ (by first | omega | (simp; done) | (simp; omega)) _)))).mono ?_; rintro e w2 ⟨rfl, hb2⟩; rw [hk])
    go_ret2
    exact ⟨_, rfl, LLad.nil _ _, (by repeat (first | exact Below.refl _ _ | refine bl_alloc ?_ _ | refine bl_drewN ?_ _ | refine bl_trans (by assumption) ?_ | refine bl_set ?_ (by first | omega | (simp; done) | (simp; omega)) _))⟩
  · rw [solN_yes hk, solL_yes hk]
    obtain ⟨⟨k1, k2⟩, k3, k4⟩ := okP_true hk
    have K4 := Lib.hid k4
    clear k4
    go_enter Try.func29, Try.ntmps29
    go_wp2_with fail
    refine (pzGood_any wd _ n f _ (HH.out.keep (by repeat (first | exact Below.refl _ _ | refine bl_alloc ?_ _ | refine bl_drewN ?_ _ | refine bl_trans (by assumption) ?_ | refine bl_set ?_ (by first | omega | (simp; done) | (simp; omega)) _)))).mono ?_
    rintro e w1 ⟨rfl, hbw1⟩
    obtain ⟨hcw1, hfw1⟩ := bcell hbw1
    have hzw1 := bsize hbw1
    (try simp only [World.size_alloc, World.size_setCell] at hzw1)
    have kw1_0_0 : w1.cell? ⟨w.heap.size, 0, none⟩ = some (.int .i64 wd) := by rw [hcw1 _ _ (by first | (simp; done) | omega | (simp; omega))]; first | assumption | (simp [go_sem]; done) | (simp [go_sem]; done) | (simp [go_sem, *]; done)
    have kw1_0_1 : w1.cell? ⟨w.heap.size, 1, none⟩ = some (.slice a n c) := by rw [hcw1 _ _ (by first | (simp; done) | omega | (simp; omega))]; first | assumption | (simp [go_sem]; done) | (simp [go_sem]; done) | (simp [go_sem, *]; done)
    have sw1_0 : w.heap.size < w1.heap.size := by first | omega | (simp at *; omega)
    have hBw1 : Below w.heap.size w w1 := (by repeat (first | exact Below.refl _ _ | refine bl_alloc ?_ _ | refine bl_drewN ?_ _ | refine bl_trans (by assumption) ?_ | refine bl_set ?_ (by first | omega | (simp; done) | (simp; omega)) _))
    have HBw1 := Lib.hid hBw1
    clear hBw1 hcw1 hfw1 hbw1
    rw [hk]
    go_wp2_with fail
    refine (pzAll_any wd _ n f _ (HH.out.keep (by repeat (first | exact Below.refl _ _ | exact HBw1.out | refine bl_alloc ?_ _ | refine bl_drewN ?_ _ | refine bl_trans (by assumption) ?_ | refine bl_set ?_ (by first | omega | (simp; done) | (simp; omega)) _))) K4.out k1 k2).mono ?_
    rintro e w2 ⟨u, rfl, hR, hbw2⟩
    obtain ⟨hcw2, hfw2⟩ := bcell hbw2
    have hzw2 := bsize hbw2
    (try simp only [World.size_alloc, World.size_setCell] at hzw2)
    have hkw2 : Below w1.heap.size w1 w2 := (by repeat (first | exact Below.refl _ _ | refine bl_alloc ?_ _ | refine bl_drewN ?_ _ | refine bl_trans (by assumption) ?_ | refine bl_set ?_ (by first | omega | (simp; done) | (simp; omega)) _))
    have hz_ := bsize HBw1.out
    have R := Lib.hid hR
    clear hR
    have kw2_0_0 : w2.cell? ⟨w.heap.size, 0, none⟩ = some (.int .i64 wd) := cell_after hkw2 sw1_0 kw1_0_0
    have kw2_0_1 : w2.cell? ⟨w.heap.size, 1, none⟩ = some (.slice a n c) := cell_after hkw2 sw1_0 kw1_0_1
    have sw2_0 : w.heap.size < w2.heap.size := size_after hkw2 sw1_0
    have hBw2 : Below w.heap.size w w2 := (by repeat (first | exact HBw1.out | exact Below.refl _ _ | refine bl_alloc ?_ _ | refine bl_drewN ?_ _ | refine bl_trans (by assumption) ?_ | refine bl_set ?_ (by first | omega | (simp; done) | (simp; omega)) _))
    have HBw2 := Lib.hid hBw2
    clear hBw2 hcw2 hfw2 hbw2 hkw2 kw1_0_0 kw1_0_1 sw1_0
    go_wp2
    go_ret2
    exact ⟨_, rfl, R.out.lower (by omega), HBw2.out⟩
theorem LLad.cells {w : World} {C n : Nat} {v : Value} {wd : Int} {is : List Nat} (h : LLad w C v n (flat wd is)) (h0 : 0 < n) : ∃ b off cap, v = .slice (some ⟨b, off, none⟩) n cap ∧ b < w.heap.size ∧ n = is.length ∧ ∀ i, i < n → w.cell? ⟨b, off + i * 3, none⟩ = some (.int .i64 wd) ∧ w.cell? ⟨b, off + i * 3 + 1, none⟩ = some (.int .i64 (pL (is.getD i 0))) ∧ w.cell? ⟨b, off + i * 3 + 2, none⟩ = some (.int .i64 (pR (is.getD i 0))) := by
  have e := h.1
  rw [flat_length] at e
  obtain ⟨b, off, cap, hv, hb, hc⟩ := h.2.toP.some_ h0
  refine ⟨b, off, cap, hv, hb, by omega, fun i hi => ?_⟩
  obtain ⟨c0, c1, c2⟩ := hc i hi
  obtain ⟨g0, g1, g2⟩ := flat_get wd is i (by omega)
  rw [g0] at c0
  rw [g1] at c1
  rw [g2] at c2
  exact ⟨c0, c1, c2⟩
def fst0 (wd : Int) (n : Nat) (f : Nat → Int) : Int := if 0 < solN wd n f then wd else 0
def fst1 (wd : Int) (n : Nat) (f : Nat → Int) : Int := if 0 < solN wd n f then pL ((sol n f wd 144).getD 0 0) else 0
def fst2 (wd : Int) (n : Nat) (f : Nat → Int) : Int := if 0 < solN wd n f then pR ((sol n f wd 144).getD 0 0) else 0
theorem fst_no {wd : Int} {n : Nat} {f : Nat → Int} (h : solN wd n f = 0) : fst0 wd n f = 0 ∧ fst1 wd n f = 0 ∧ fst2 wd n f = 0 := by simp [fst0, fst1, fst2, h]
theorem fst_yes {wd : Int} {n : Nat} {f : Nat → Int} (h : 0 < solN wd n f) : fst0 wd n f = wd ∧ fst1 wd n f = pL ((sol n f wd 144).getD 0 0) ∧ fst2 wd n f = pR ((sol n f wd 144).getD 0 0) := by simp [fst0, fst1, fst2, h]
def surL (wd : Int) (n : Nat) (f : Nat → Int) : Int := if 0 < solN wd n f then sure (pL ((sol n f wd 144).getD 0 0)) ((sol n f wd 144).map pL) else 0
def surR (wd : Int) (n : Nat) (f : Nat → Int) : Int := if 0 < solN wd n f then sure (pR ((sol n f wd 144).getD 0 0)) ((sol n f wd 144).map pR) else 0
theorem sur_no {wd : Int} {n : Nat} {f : Nat → Int} (h : solN wd n f = 0) : surL wd n f = 0 ∧ surR wd n f = 0 := by simp [surL, surR, h]
theorem sur_yes {wd : Int} {n : Nat} {f : Nat → Int} (h : 0 < solN wd n f) : surL wd n f = sure (pL ((sol n f wd 144).getD 0 0)) ((sol n f wd 144).map pL) ∧ surR wd n f = sure (pR ((sol n f wd 144).getD 0 0)) ((sol n f wd 144).map pR) := by simp [surL, surR, h]
theorem sure_take (g : Nat → Int) (x : Int) (is : List Nat) (j : Nat) (hj : j < is.length) : sure x ((is.take (j + 1)).map g) = if g (is.getD j 0) = sure x ((is.take j).map g) then sure x ((is.take j).map g) else -1 := by
  have e : is.take (j + 1) = is.take j ++ [is.getD j 0] := by
    rw [List.take_add_one]
    congr 1
    simp [List.getD, hj]
  rw [e, List.map_append]
  exact sure_snoc _ _ _
theorem sure_zero (g : Nat → Int) (x : Int) (is : List Nat) : sure x ((is.take 0).map g) = x := by simp [sure]
theorem sure_all (g : Nat → Int) (x : Int) (is : List Nat) (j : Nat) (hj : is.length ≤ j) : sure x ((is.take j).map g) = sure x (is.map g) := by rw [List.take_of_length_le hj]
set_option maxHeartbeats 800000 in
theorem impl_CountSolutions (wd : Int) (v : Value) (n : Nat) (f : Nat → Int) (w : World) (h : PClu w v n f) :
    Calls Try.prog 36 #[.agg #[.int .i64 wd, v]] w fun e w' => e = .returned (.tuple #[.int .i64 (solN wd n f), .bool (okP wd n f)]) ∧ Below w.heap.size w w' := by
  obtain ⟨a, c, rfl⟩ := h.shape
  have HH := Lib.hid h
  have hN := solN_le wd n f
  clear h
  go_enter Try.func36, Try.ntmps36
  go_wp2_with fail
  refine (impl_Solutions wd _ n f _ (HH.out.keep (by repeat (first | exact Below.refl _ _ | refine bl_alloc ?_ _ | refine bl_drewN ?_ _ | refine bl_trans (by assumption) ?_ | refine bl_set ?_ (by first | omega | (simp; done) | (simp; omega)) _)))).mono ?_
  rintro e w2 ⟨u, rfl, hR, hb2⟩
  obtain ⟨a1, c1, rfl⟩ := hR.shape
  clear hR
  go_wp2
  go_ret2
  exact ⟨rfl, (by repeat (first | exact Below.refl _ _ | refine bl_alloc ?_ _ | refine bl_drewN ?_ _ | refine bl_trans (by assumption) ?_ | refine bl_set ?_ (by first | omega | (simp; done) | (simp; omega)) _))⟩
set_option maxHeartbeats 800000 in
theorem spec_CountSolutions (wd : Int) (v : Value) (n : Nat) (f : Nat → Int) (w : World) (h : PClu w v n f) :
    Calls Try.prog 35 #[.agg #[.int .i64 wd, v]] w fun e w' => e = .returned (.tuple #[.int .i64 (solN wd n f), .bool (okP wd n f)]) ∧ Below w.heap.size w w' := by
  obtain ⟨a, c, rfl⟩ := h.shape
  have HH := Lib.hid h
  have hN := cnt_le n f wd
  clear h
  cases hk : okP wd n f
  · rw [solN_no hk]
    go_enter Try.func35, Try.ntmps35
    go_wp2_with (go_at_call 67; refine (pzGood_any wd _ n f _ (HH.out.keep (by repeat (first | exact Below.refl _ _ | refine bl_alloc ?_ _ | refine bl_drewN ?_ _ | refine bl_trans (by assumption) ?_ | refine bl_set ?_ (by first | omega | (simp; done) | (simp; omega)) _)))).mono ?_; rintro e w2 ⟨rfl, hb2⟩; rw [hk])
    go_ret2
    exact ⟨rfl, (by repeat (first | exact Below.refl _ _ | refine bl_alloc ?_ _ | refine bl_drewN ?_ _ | refine bl_trans (by assumption) ?_ | refine bl_set ?_ (by first | omega | (simp; done) | (simp; omega)) _))⟩
  · rw [solN_yes hk]
    obtain ⟨⟨k1, k2⟩, k3, k4⟩ := okP_true hk
    have K4 := Lib.hid k4
    clear k4
    go_enter Try.func35, Try.ntmps35
    go_wp2_with fail
    refine (pzGood_any wd _ n f _ (HH.out.keep (by repeat (first | exact Below.refl _ _ | refine bl_alloc ?_ _ | refine bl_drewN ?_ _ | refine bl_trans (by assumption) ?_ | refine bl_set ?_ (by first | omega | (simp; done) | (simp; omega)) _)))).mono ?_
    rintro e w1 ⟨rfl, hbw1⟩
    obtain ⟨hcw1, hfw1⟩ := bcell hbw1
    have hzw1 := bsize hbw1
    (try simp only [World.size_alloc, World.size_setCell] at hzw1)
    have kw1_0_0 : w1.cell? ⟨w.heap.size, 0, none⟩ = some (.int .i64 wd) := by rw [hcw1 _ _ (by first | (simp; done) | omega | (simp; omega))]; first | assumption | (simp [go_sem]; done) | (simp [go_sem]; done) | (simp [go_sem, *]; done)
    have kw1_0_1 : w1.cell? ⟨w.heap.size, 1, none⟩ = some (.slice a n c) := by rw [hcw1 _ _ (by first | (simp; done) | omega | (simp; omega))]; first | assumption | (simp [go_sem]; done) | (simp [go_sem]; done) | (simp [go_sem, *]; done)
    have sw1_0 : w.heap.size < w1.heap.size := by first | omega | (simp at *; omega)
    have hBw1 : Below w.heap.size w w1 := (by repeat (first | exact Below.refl _ _ | refine bl_alloc ?_ _ | refine bl_drewN ?_ _ | refine bl_trans (by assumption) ?_ | refine bl_set ?_ (by first | omega | (simp; done) | (simp; omega)) _))
    have HBw1 := Lib.hid hBw1
    clear hBw1 hcw1 hfw1 hbw1
    rw [hk]
    go_wp2_with fail
    refine (pzAll_any wd _ n f _ (HH.out.keep (by repeat (first | exact Below.refl _ _ | exact HBw1.out | refine bl_alloc ?_ _ | refine bl_drewN ?_ _ | refine bl_trans (by assumption) ?_ | refine bl_set ?_ (by first | omega | (simp; done) | (simp; omega)) _))) K4.out k1 k2).mono ?_
    rintro e w2 ⟨u, rfl, hR, hbw2⟩
    obtain ⟨hcw2, hfw2⟩ := bcell hbw2
    have hzw2 := bsize hbw2
    (try simp only [World.size_alloc, World.size_setCell] at hzw2)
    have hkw2 : Below w1.heap.size w1 w2 := (by repeat (first | exact Below.refl _ _ | refine bl_alloc ?_ _ | refine bl_drewN ?_ _ | refine bl_trans (by assumption) ?_ | refine bl_set ?_ (by first | omega | (simp; done) | (simp; omega)) _))
    obtain ⟨a1, c1, rfl⟩ := hR.shape
    clear hR
    have kw2_0_0 : w2.cell? ⟨w.heap.size, 0, none⟩ = some (.int .i64 wd) := cell_after hkw2 sw1_0 kw1_0_0
    have kw2_0_1 : w2.cell? ⟨w.heap.size, 1, none⟩ = some (.slice a n c) := cell_after hkw2 sw1_0 kw1_0_1
    have sw2_0 : w.heap.size < w2.heap.size := size_after hkw2 sw1_0
    have hBw2 : Below w.heap.size w w2 := (by repeat (first | exact HBw1.out | exact Below.refl _ _ | refine bl_alloc ?_ _ | refine bl_drewN ?_ _ | refine bl_trans (by assumption) ?_ | refine bl_set ?_ (by first | omega | (simp; done) | (simp; omega)) _))
    have HBw2 := Lib.hid hBw2
    clear hBw2 hcw2 hfw2 hbw2 hkw2 kw1_0_0 kw1_0_1 sw1_0
    go_wp2
    go_ret2
    exact ⟨rfl, HBw2.out⟩
def solved (wd : Int) (n : Nat) (f : Nat → Int) : Bool := decide (solN wd n f = 1)
set_option maxHeartbeats 800000 in
theorem impl_IsSolved (wd : Int) (v : Value) (n : Nat) (f : Nat → Int) (w : World) (h : PClu w v n f) :
    Calls Try.prog 43 #[.agg #[.int .i64 wd, v]] w fun e w' => e = .returned (.tuple #[.bool (solved wd n f), .bool (okP wd n f)]) ∧ Below w.heap.size w w' := by
  obtain ⟨a, c, rfl⟩ := h.shape
  have HH := Lib.hid h
  have hN := solN_le wd n f
  have HS := Lib.hid (show solved wd n f = decide (solN wd n f = 1) from rfl)
  clear h
  go_enter Try.func43, Try.ntmps43
  go_wp2_with fail
  refine (impl_CountSolutions wd _ n f _ (HH.out.keep (by repeat (first | exact Below.refl _ _ | refine bl_alloc ?_ _ | refine bl_drewN ?_ _ | refine bl_trans (by assumption) ?_ | refine bl_set ?_ (by first | omega | (simp; done) | (simp; omega)) _)))).mono ?_
  rintro e w2 ⟨rfl, hb2⟩
  have h2 : ((solN wd n f : Int) == 1) = decide (solN wd n f = 1) := nat_one _
  go_wp2
  go_ret2
  exact ⟨by rw [HS.out, ← h2]; rfl, (by repeat (first | exact Below.refl _ _ | refine bl_alloc ?_ _ | refine bl_drewN ?_ _ | refine bl_trans (by assumption) ?_ | refine bl_set ?_ (by first | omega | (simp; done) | (simp; omega)) _))⟩
set_option maxHeartbeats 800000 in
theorem pzSolved_any (wd : Int) (v : Value) (n : Nat) (f : Nat → Int) (w : World) (hp : PClu w v n f) (hk : okCs n f = true) (h1 : 1 ≤ wd) (h2 : wd ≤ 12) :
    Calls Try.prog 77 #[.int .i64 wd, v] w fun e w' => e = .returned (.bool (decide (cnt n f wd = 1))) ∧ Below w.heap.size w w' := by
  obtain ⟨a, c, rfl⟩ := hp.shape
  have HH := Lib.hid hp
  have HK := Lib.hid hk
  have hN := cnt_le n f wd
  clear hp hk
  go_enter Try.func77, Try.ntmps77
  go_wp2_with fail
  refine (pzAll_any wd _ n f _ HH.out HK.out h1 h2).mono ?_
  rintro e w2 ⟨u, rfl, hR, hb2⟩
  obtain ⟨a1, c1, rfl⟩ := hR.shape
  clear hR
  have h2 : ((cnt n f wd : Int) == 1) = decide (cnt n f wd = 1) := nat_one _
  go_wp2
  go_ret
  exact ⟨by rw [← h2]; rfl, (by repeat (first | exact Below.refl _ _ | refine bl_alloc ?_ _ | refine bl_drewN ?_ _ | refine bl_trans (by assumption) ?_ | refine bl_set ?_ (by first | omega | (simp; done) | (simp; omega)) _))⟩
set_option maxHeartbeats 800000 in
theorem spec_IsSolved (wd : Int) (v : Value) (n : Nat) (f : Nat → Int) (w : World) (h : PClu w v n f) :
    Calls Try.prog 42 #[.agg #[.int .i64 wd, v]] w fun e w' => e = .returned (.tuple #[.bool (solved wd n f), .bool (okP wd n f)]) ∧ Below w.heap.size w w' := by
  obtain ⟨a, c, rfl⟩ := h.shape
  have HH := Lib.hid h
  have HS := Lib.hid (show solved wd n f = decide (solN wd n f = 1) from rfl)
  clear h
  cases hk : okP wd n f
  · have e := solN_no hk
    go_enter Try.func42, Try.ntmps42
    go_wp2_with (go_at_call 67; refine (pzGood_any wd _ n f _ (HH.out.keep (by repeat (first | exact Below.refl _ _ | refine bl_alloc ?_ _ | refine bl_drewN ?_ _ | refine bl_trans (by assumption) ?_ | refine bl_set ?_ (by first | omega | (simp; done) | (simp; omega)) _)))).mono ?_; rintro e w2 ⟨rfl, hb2⟩; rw [hk])
    go_ret2
    exact ⟨by rw [HS.out, e]; rfl, (by repeat (first | exact Below.refl _ _ | refine bl_alloc ?_ _ | refine bl_drewN ?_ _ | refine bl_trans (by assumption) ?_ | refine bl_set ?_ (by first | omega | (simp; done) | (simp; omega)) _))⟩
  · have e := Lib.hid (solN_yes hk)
    obtain ⟨⟨k1, k2⟩, k3, k4⟩ := okP_true hk
    have K4 := Lib.hid k4
    clear k4
    go_enter Try.func42, Try.ntmps42
    go_wp2_with fail
    refine (pzGood_any wd _ n f _ (HH.out.keep (by repeat (first | exact Below.refl _ _ | refine bl_alloc ?_ _ | refine bl_drewN ?_ _ | refine bl_trans (by assumption) ?_ | refine bl_set ?_ (by first | omega | (simp; done) | (simp; omega)) _)))).mono ?_
    rintro e w1 ⟨rfl, hbw1⟩
    obtain ⟨hcw1, hfw1⟩ := bcell hbw1
    have hzw1 := bsize hbw1
    (try simp only [World.size_alloc, World.size_setCell] at hzw1)
    have kw1_0_0 : w1.cell? ⟨w.heap.size, 0, none⟩ = some (.int .i64 wd) := by rw [hcw1 _ _ (by first | (simp; done) | omega | (simp; omega))]; first | assumption | (simp [go_sem]; done) | (simp [go_sem]; done) | (simp [go_sem, *]; done)
    have kw1_0_1 : w1.cell? ⟨w.heap.size, 1, none⟩ = some (.slice a n c) := by rw [hcw1 _ _ (by first | (simp; done) | omega | (simp; omega))]; first | assumption | (simp [go_sem]; done) | (simp [go_sem]; done) | (simp [go_sem, *]; done)
    have sw1_0 : w.heap.size < w1.heap.size := by first | omega | (simp at *; omega)
    have hBw1 : Below w.heap.size w w1 := (by repeat (first | exact Below.refl _ _ | refine bl_alloc ?_ _ | refine bl_drewN ?_ _ | refine bl_trans (by assumption) ?_ | refine bl_set ?_ (by first | omega | (simp; done) | (simp; omega)) _))
    have HBw1 := Lib.hid hBw1
    clear hBw1 hcw1 hfw1 hbw1
    rw [hk]
    go_wp2_with fail
    refine (pzSolved_any wd _ n f _ (HH.out.keep (by repeat (first | exact Below.refl _ _ | exact HBw1.out | refine bl_alloc ?_ _ | refine bl_drewN ?_ _ | refine bl_trans (by assumption) ?_ | refine bl_set ?_ (by first | omega | (simp; done) | (simp; omega)) _))) K4.out k1 k2).mono ?_
    rintro e w2 ⟨rfl, hbw2⟩
    obtain ⟨hcw2, hfw2⟩ := bcell hbw2
    have hzw2 := bsize hbw2
    (try simp only [World.size_alloc, World.size_setCell] at hzw2)
    have hkw2 : Below w1.heap.size w1 w2 := (by repeat (first | exact Below.refl _ _ | refine bl_alloc ?_ _ | refine bl_drewN ?_ _ | refine bl_trans (by assumption) ?_ | refine bl_set ?_ (by first | omega | (simp; done) | (simp; omega)) _))
    have kw2_0_0 : w2.cell? ⟨w.heap.size, 0, none⟩ = some (.int .i64 wd) := cell_after hkw2 sw1_0 kw1_0_0
    have kw2_0_1 : w2.cell? ⟨w.heap.size, 1, none⟩ = some (.slice a n c) := cell_after hkw2 sw1_0 kw1_0_1
    have sw2_0 : w.heap.size < w2.heap.size := size_after hkw2 sw1_0
    have hBw2 : Below w.heap.size w w2 := (by repeat (first | exact HBw1.out | exact Below.refl _ _ | refine bl_alloc ?_ _ | refine bl_drewN ?_ _ | refine bl_trans (by assumption) ?_ | refine bl_set ?_ (by first | omega | (simp; done) | (simp; omega)) _))
    have HBw2 := Lib.hid hBw2
    clear hBw2 hcw2 hfw2 hbw2 hkw2 kw1_0_0 kw1_0_1 sw1_0
    go_wp2
    go_ret2
    exact ⟨by rw [HS.out, e.out]; rfl, HBw2.out⟩
theorem okP_of {wd : Int} {n : Nat} {f : Nat → Int} (h : ¬ solN wd n f = 0) : okP wd n f = true := by
  cases hk : okP wd n f
  · exact absurd (solN_no hk) h
  · rfl
attribute [local irreducible] sol flat cnt
set_option maxHeartbeats 1600000 in
theorem impl_FirstSolution (wd : Int) (v : Value) (n : Nat) (f : Nat → Int) (w : World) (h : PClu w v n f) :
    Calls Try.prog 38 #[.agg #[.int .i64 wd, v]] w fun e w' => e = .returned (.tuple #[.agg #[.int .i64 (fst0 wd n f), .int .i64 (fst1 wd n f), .int .i64 (fst2 wd n f)], .bool (decide (0 < solN wd n f))]) ∧ Below w.heap.size w w' := by
  obtain ⟨a, c, rfl⟩ := h.shape
  have HH := Lib.hid h
  clear h
  have hN := solN_le wd n f
  by_cases h0 : solN wd n f = 0
  · obtain ⟨g0, g1, g2⟩ := fst_no h0
    rw [g0, g1, g2, h0]
    clear g0 g1 g2
    go_enter Try.func38, Try.ntmps38
    go_wp2_with fail
    refine (impl_Solutions wd _ n f _ (HH.out.keep (by repeat (first | exact Below.refl _ _ | refine bl_alloc ?_ _ | refine bl_drewN ?_ _ | refine bl_trans (by assumption) ?_ | refine bl_set ?_ (by first | omega | (simp; done) | (simp; omega)) _)))).mono ?_
    rintro e w1 ⟨u, rfl, hR, hbw1⟩
    obtain ⟨hcw1, hfw1⟩ := bcell hbw1
    have hzw1 := bsize hbw1
    (try simp only [World.size_alloc, World.size_setCell] at hzw1)
    obtain ⟨a1, c1, rfl⟩ := hR.shape
    have R := Lib.hid hR
    clear hR
    have kw1_0_0 : w1.cell? ⟨w.heap.size, 0, none⟩ = some (.int .i64 wd) := by rw [hcw1 _ _ (by first | (simp; done) | omega | (simp; omega))]; first | assumption | (simp [go_sem]; done) | (simp [go_sem]; done) | (simp [go_sem, *]; done)
    have kw1_0_1 : w1.cell? ⟨w.heap.size, 1, none⟩ = some (.slice a n c) := by rw [hcw1 _ _ (by first | (simp; done) | omega | (simp; omega))]; first | assumption | (simp [go_sem]; done) | (simp [go_sem]; done) | (simp [go_sem, *]; done)
    have sw1_0 : w.heap.size < w1.heap.size := by first | omega | (simp at *; omega)
    have kw1_1_0 : w1.cell? ⟨w.heap.size + 1, 0, none⟩ = some (.int .i64 0) := by rw [hcw1 _ _ (by first | (simp; done) | omega | (simp; omega))]; first | assumption | (simp [go_sem]; done) | (simp [go_sem]; done) | (simp [go_sem, *]; done)
    have fw1_1_0 : w1.frozen? ⟨w.heap.size + 1, 0, none⟩ = false := by rw [hfw1 _ _ (by first | (simp; done) | omega | (simp; omega))]; first | assumption | (simp [go_sem]; done) | (simp [go_sem]; done) | (simp [go_sem, *]; done)
    have kw1_1_1 : w1.cell? ⟨w.heap.size + 1, 1, none⟩ = some (.int .i64 0) := by rw [hcw1 _ _ (by first | (simp; done) | omega | (simp; omega))]; first | assumption | (simp [go_sem]; done) | (simp [go_sem]; done) | (simp [go_sem, *]; done)
    have fw1_1_1 : w1.frozen? ⟨w.heap.size + 1, 1, none⟩ = false := by rw [hfw1 _ _ (by first | (simp; done) | omega | (simp; omega))]; first | assumption | (simp [go_sem]; done) | (simp [go_sem]; done) | (simp [go_sem, *]; done)
    have kw1_1_2 : w1.cell? ⟨w.heap.size + 1, 2, none⟩ = some (.int .i64 0) := by rw [hcw1 _ _ (by first | (simp; done) | omega | (simp; omega))]; first | assumption | (simp [go_sem]; done) | (simp [go_sem]; done) | (simp [go_sem, *]; done)
    have fw1_1_2 : w1.frozen? ⟨w.heap.size + 1, 2, none⟩ = false := by rw [hfw1 _ _ (by first | (simp; done) | omega | (simp; omega))]; first | assumption | (simp [go_sem]; done) | (simp [go_sem]; done) | (simp [go_sem, *]; done)
    have sw1_1 : w.heap.size + 1 < w1.heap.size := by first | omega | (simp at *; omega)
    have hBw1 : Below w.heap.size w w1 := (by repeat (first | exact Below.refl _ _ | refine bl_alloc ?_ _ | refine bl_drewN ?_ _ | refine bl_trans (by assumption) ?_ | refine bl_set ?_ (by first | omega | (simp; done) | (simp; omega)) _))
    have HBw1 := Lib.hid hBw1
    clear hBw1 hcw1 hfw1 hbw1
    rw [h0]
    go_wp2
    exact bodyPost_ret (v := .tuple #[.agg #[.int .i64 0, .int .i64 0, .int .i64 0], .bool false]) (by simp [results, Try.results38, go_sem, kw1_0_0, kw1_0_1, kw1_1_0, kw1_1_1, kw1_1_2, fw1_1_0, fw1_1_1, fw1_1_2]) rfl ⟨by simp, (by repeat (first | refine bl_set ?_ (by first | omega | (simp; done) | (simp; omega)) _ | exact HBw1.out))⟩
  · obtain ⟨g0, g1, g2⟩ := fst_yes (wd := wd) (n := n) (f := f) (by omega)
    rw [g0, g1, g2]
    have e0 : decide (0 < solN wd n f) = true := by simp; omega
    rw [e0]
    have hk := okP_of h0
    have hL := Lib.hid (solL_yes hk)
    clear g0 g1 g2 e0
    have n0 : ((solN wd n f : Int) == 0) = false := by simp; omega
    have n1 : (0 : Int) < (solN wd n f : Int) := by omega
    go_enter Try.func38, Try.ntmps38
    go_wp2_with fail
    refine (impl_Solutions wd _ n f _ (HH.out.keep (by repeat (first | exact Below.refl _ _ | refine bl_alloc ?_ _ | refine bl_drewN ?_ _ | refine bl_trans (by assumption) ?_ | refine bl_set ?_ (by first | omega | (simp; done) | (simp; omega)) _)))).mono ?_
    rintro e w1 ⟨u, rfl, hR, hbw1⟩
    obtain ⟨hcw1, hfw1⟩ := bcell hbw1
    have hzw1 := bsize hbw1
    (try simp only [World.size_alloc, World.size_setCell] at hzw1)
    obtain ⟨a1, c1, rfl⟩ := hR.shape
    have R := Lib.hid hR
    clear hR
    have kw1_0_0 : w1.cell? ⟨w.heap.size, 0, none⟩ = some (.int .i64 wd) := by rw [hcw1 _ _ (by first | (simp; done) | omega | (simp; omega))]; first | assumption | (simp [go_sem]; done) | (simp [go_sem]; done) | (simp [go_sem, *]; done)
    have kw1_0_1 : w1.cell? ⟨w.heap.size, 1, none⟩ = some (.slice a n c) := by rw [hcw1 _ _ (by first | (simp; done) | omega | (simp; omega))]; first | assumption | (simp [go_sem]; done) | (simp [go_sem]; done) | (simp [go_sem, *]; done)
    have sw1_0 : w.heap.size < w1.heap.size := by first | omega | (simp at *; omega)
    have kw1_1_0 : w1.cell? ⟨w.heap.size + 1, 0, none⟩ = some (.int .i64 0) := by rw [hcw1 _ _ (by first | (simp; done) | omega | (simp; omega))]; first | assumption | (simp [go_sem]; done) | (simp [go_sem]; done) | (simp [go_sem, *]; done)
    have fw1_1_0 : w1.frozen? ⟨w.heap.size + 1, 0, none⟩ = false := by rw [hfw1 _ _ (by first | (simp; done) | omega | (simp; omega))]; first | assumption | (simp [go_sem]; done) | (simp [go_sem]; done) | (simp [go_sem, *]; done)
    have kw1_1_1 : w1.cell? ⟨w.heap.size + 1, 1, none⟩ = some (.int .i64 0) := by rw [hcw1 _ _ (by first | (simp; done) | omega | (simp; omega))]; first | assumption | (simp [go_sem]; done) | (simp [go_sem]; done) | (simp [go_sem, *]; done)
    have fw1_1_1 : w1.frozen? ⟨w.heap.size + 1, 1, none⟩ = false := by rw [hfw1 _ _ (by first | (simp; done) | omega | (simp; omega))]; first | assumption | (simp [go_sem]; done) | (simp [go_sem]; done) | (simp [go_sem, *]; done)
    have kw1_1_2 : w1.cell? ⟨w.heap.size + 1, 2, none⟩ = some (.int .i64 0) := by rw [hcw1 _ _ (by first | (simp; done) | omega | (simp; omega))]; first | assumption | (simp [go_sem]; done) | (simp [go_sem]; done) | (simp [go_sem, *]; done)
    have fw1_1_2 : w1.frozen? ⟨w.heap.size + 1, 2, none⟩ = false := by rw [hfw1 _ _ (by first | (simp; done) | omega | (simp; omega))]; first | assumption | (simp [go_sem]; done) | (simp [go_sem]; done) | (simp [go_sem, *]; done)
    have sw1_1 : w.heap.size + 1 < w1.heap.size := by first | omega | (simp at *; omega)
    have hBw1 : Below w.heap.size w w1 := (by repeat (first | exact Below.refl _ _ | refine bl_alloc ?_ _ | refine bl_drewN ?_ _ | refine bl_trans (by assumption) ?_ | refine bl_set ?_ (by first | omega | (simp; done) | (simp; omega)) _))
    have HBw1 := Lib.hid hBw1
    clear hBw1 hcw1 hfw1 hbw1
    rw [hL.out] at R
    obtain ⟨b1, o1, c2, hv, hb1, hlen, hcs⟩ := R.out.cells (by omega)
    simp only [Value.slice.injEq, true_and] at hv
    obtain ⟨rfl, rfl⟩ := hv
    obtain ⟨q0, q1, q2⟩ := hcs 0 (by omega)
    simp only [Nat.zero_mul, Nat.add_zero] at q0 q1 q2
    clear hcs hlen
    go_wp2
    exact bodyPost_ret (v := .tuple #[.agg #[.int .i64 wd, .int .i64 (pL ((sol n f wd 144).getD 0 0)), .int .i64 (pR ((sol n f wd 144).getD 0 0))], .bool true]) (by simp [results, Try.results38, go_sem, kw1_0_0, kw1_0_1, kw1_1_0, kw1_1_1, kw1_1_2, fw1_1_0, fw1_1_1, fw1_1_2]) rfl ⟨rfl, (by repeat (first | refine bl_set ?_ (by first | omega | (simp; done) | (simp; omega)) _ | exact HBw1.out))⟩
set_option maxHeartbeats 1600000 in
theorem spec_FirstSolution (wd : Int) (v : Value) (n : Nat) (f : Nat → Int) (w : World) (h : PClu w v n f) :
    Calls Try.prog 37 #[.agg #[.int .i64 wd, v]] w fun e w' => e = .returned (.tuple #[.agg #[.int .i64 (fst0 wd n f), .int .i64 (fst1 wd n f), .int .i64 (fst2 wd n f)], .bool (decide (0 < solN wd n f))]) ∧ Below w.heap.size w w' := by
  obtain ⟨a, c, rfl⟩ := h.shape
  have HH := Lib.hid h
  clear h
  have hN := solN_le wd n f
  cases hk : okP wd n f
  · have h0 := solN_no hk
    obtain ⟨g0, g1, g2⟩ := fst_no h0
    rw [g0, g1, g2, h0]
    clear g0 g1 g2
    go_enter Try.func37, Try.ntmps37
    go_wp2_with fail
    refine (pzGood_any wd _ n f _ (HH.out.keep (by repeat (first | exact Below.refl _ _ | refine bl_alloc ?_ _ | refine bl_drewN ?_ _ | refine bl_trans (by assumption) ?_ | refine bl_set ?_ (by first | omega | (simp; done) | (simp; omega)) _)))).mono ?_
    rintro e w1 ⟨rfl, hbw1⟩
    obtain ⟨hcw1, hfw1⟩ := bcell hbw1
    have hzw1 := bsize hbw1
    (try simp only [World.size_alloc, World.size_setCell] at hzw1)
    have kw1_0_0 : w1.cell? ⟨w.heap.size, 0, none⟩ = some (.int .i64 wd) := by rw [hcw1 _ _ (by first | (simp; done) | omega | (simp; omega))]; first | assumption | (simp [go_sem]; done) | (simp [go_sem]; done) | (simp [go_sem, *]; done)
    have kw1_0_1 : w1.cell? ⟨w.heap.size, 1, none⟩ = some (.slice a n c) := by rw [hcw1 _ _ (by first | (simp; done) | omega | (simp; omega))]; first | assumption | (simp [go_sem]; done) | (simp [go_sem]; done) | (simp [go_sem, *]; done)
    have sw1_0 : w.heap.size < w1.heap.size := by first | omega | (simp at *; omega)
    have kw1_1_0 : w1.cell? ⟨w.heap.size + 1, 0, none⟩ = some (.int .i64 0) := by rw [hcw1 _ _ (by first | (simp; done) | omega | (simp; omega))]; first | assumption | (simp [go_sem]; done) | (simp [go_sem]; done) | (simp [go_sem, *]; done)
    have fw1_1_0 : w1.frozen? ⟨w.heap.size + 1, 0, none⟩ = false := by rw [hfw1 _ _ (by first | (simp; done) | omega | (simp; omega))]; first | assumption | (simp [go_sem]; done) | (simp [go_sem]; done) | (simp [go_sem, *]; done)
    have kw1_1_1 : w1.cell? ⟨w.heap.size + 1, 1, none⟩ = some (.int .i64 0) := by rw [hcw1 _ _ (by first | (simp; done) | omega | (simp; omega))]; first | assumption | (simp [go_sem]; done) | (simp [go_sem]; done) | (simp [go_sem, *]; done)
    have fw1_1_1 : w1.frozen? ⟨w.heap.size + 1, 1, none⟩ = false := by rw [hfw1 _ _ (by first | (simp; done) | omega | (simp; omega))]; first | assumption | (simp [go_sem]; done) | (simp [go_sem]; done) | (simp [go_sem, *]; done)
    have kw1_1_2 : w1.cell? ⟨w.heap.size + 1, 2, none⟩ = some (.int .i64 0) := by rw [hcw1 _ _ (by first | (simp; done) | omega | (simp; omega))]; first | assumption | (simp [go_sem]; done) | (simp [go_sem]; done) | (simp [go_sem, *]; done)
    have fw1_1_2 : w1.frozen? ⟨w.heap.size + 1, 2, none⟩ = false := by rw [hfw1 _ _ (by first | (simp; done) | omega | (simp; omega))]; first | assumption | (simp [go_sem]; done) | (simp [go_sem]; done) | (simp [go_sem, *]; done)
    have sw1_1 : w.heap.size + 1 < w1.heap.size := by first | omega | (simp at *; omega)
    have hBw1 : Below w.heap.size w w1 := (by repeat (first | exact Below.refl _ _ | refine bl_alloc ?_ _ | refine bl_drewN ?_ _ | refine bl_trans (by assumption) ?_ | refine bl_set ?_ (by first | omega | (simp; done) | (simp; omega)) _))
    have HBw1 := Lib.hid hBw1
    clear hBw1 hcw1 hfw1 hbw1
    rw [hk]
    go_wp2
    exact bodyPost_ret (v := .tuple #[.agg #[.int .i64 0, .int .i64 0, .int .i64 0], .bool false]) (by simp [results, Try.results37, go_sem, kw1_0_0, kw1_0_1, kw1_1_0, kw1_1_1, kw1_1_2, fw1_1_0, fw1_1_1, fw1_1_2]) rfl ⟨by simp, (by repeat (first | refine bl_set ?_ (by first | omega | (simp; done) | (simp; omega)) _ | exact HBw1.out))⟩
  · obtain ⟨⟨k1, k2⟩, k3, k4⟩ := okP_true hk
    have K4 := Lib.hid k4
    clear k4
    have hY := solN_yes hk
    by_cases h0 : cnt n f wd = 0
    · obtain ⟨g0, g1, g2⟩ := fst_no (wd := wd) (n := n) (f := f) (by omega)
      rw [g0, g1, g2, hY, h0]
      clear g0 g1 g2
      go_enter Try.func37, Try.ntmps37
      go_wp2_with fail
      refine (pzGood_any wd _ n f _ (HH.out.keep (by repeat (first | exact Below.refl _ _ | refine bl_alloc ?_ _ | refine bl_drewN ?_ _ | refine bl_trans (by assumption) ?_ | refine bl_set ?_ (by first | omega | (simp; done) | (simp; omega)) _)))).mono ?_
      rintro e w1 ⟨rfl, hbw1⟩
      obtain ⟨hcw1, hfw1⟩ := bcell hbw1
      have hzw1 := bsize hbw1
      (try simp only [World.size_alloc, World.size_setCell] at hzw1)
      have kw1_0_0 : w1.cell? ⟨w.heap.size, 0, none⟩ = some (.int .i64 wd) := by rw [hcw1 _ _ (by first | (simp; done) | omega | (simp; omega))]; first | assumption | (simp [go_sem]; done) | (simp [go_sem]; done) | (simp [go_sem, *]; done)
      have kw1_0_1 : w1.cell? ⟨w.heap.size, 1, none⟩ = some (.slice a n c) := by rw [hcw1 _ _ (by first | (simp; done) | omega | (simp; omega))]; first | assumption | (simp [go_sem]; done) | (simp [go_sem]; done) | (simp [go_sem, *]; done)
      have sw1_0 : w.heap.size < w1.heap.size := by first | omega | (simp at *; omega)
      have kw1_1_0 : w1.cell? ⟨w.heap.size + 1, 0, none⟩ = some (.int .i64 0) := by rw [hcw1 _ _ (by first | (simp; done) | omega | (simp; omega))]; first | assumption | (simp [go_sem]; done) | (simp [go_sem]; done) | (simp [go_sem, *]; done)
      have fw1_1_0 : w1.frozen? ⟨w.heap.size + 1, 0, none⟩ = false := by rw [hfw1 _ _ (by first | (simp; done) | omega | (simp; omega))]; first | assumption | (simp [go_sem]; done) | (simp [go_sem]; done) | (simp [go_sem, *]; done)
      have kw1_1_1 : w1.cell? ⟨w.heap.size + 1, 1, none⟩ = some (.int .i64 0) := by rw [hcw1 _ _ (by first | (simp; done) | omega | (simp; omega))]; first | assumption | (simp [go_sem]; done) | (simp [go_sem]; done) | (simp [go_sem, *]; done)
      have fw1_1_1 : w1.frozen? ⟨w.heap.size + 1, 1, none⟩ = false := by rw [hfw1 _ _ (by first | (simp; done) | omega | (simp; omega))]; first | assumption | (simp [go_sem]; done) | (simp [go_sem]; done) | (simp [go_sem, *]; done)
      have kw1_1_2 : w1.cell? ⟨w.heap.size + 1, 2, none⟩ = some (.int .i64 0) := by rw [hcw1 _ _ (by first | (simp; done) | omega | (simp; omega))]; first | assumption | (simp [go_sem]; done) | (simp [go_sem]; done) | (simp [go_sem, *]; done)
      have fw1_1_2 : w1.frozen? ⟨w.heap.size + 1, 2, none⟩ = false := by rw [hfw1 _ _ (by first | (simp; done) | omega | (simp; omega))]; first | assumption | (simp [go_sem]; done) | (simp [go_sem]; done) | (simp [go_sem, *]; done)
      have sw1_1 : w.heap.size + 1 < w1.heap.size := by first | omega | (simp at *; omega)
      have hBw1 : Below w.heap.size w w1 := (by repeat (first | exact Below.refl _ _ | refine bl_alloc ?_ _ | refine bl_drewN ?_ _ | refine bl_trans (by assumption) ?_ | refine bl_set ?_ (by first | omega | (simp; done) | (simp; omega)) _))
      have HBw1 := Lib.hid hBw1
      clear hBw1 hcw1 hfw1 hbw1
      rw [hk]
      go_wp2_with fail
      refine (pzAll_any wd _ n f _ (HH.out.keep (by repeat (first | exact Below.refl _ _ | exact HBw1.out | refine bl_alloc ?_ _ | refine bl_drewN ?_ _ | refine bl_trans (by assumption) ?_ | refine bl_set ?_ (by first | omega | (simp; done) | (simp; omega)) _))) K4.out k1 k2).mono ?_
      rintro e w2 ⟨u, rfl, hR, hbw2⟩
      obtain ⟨hcw2, hfw2⟩ := bcell hbw2
      have hzw2 := bsize hbw2
      (try simp only [World.size_alloc, World.size_setCell] at hzw2)
      have hkw2 : Below w1.heap.size w1 w2 := (by repeat (first | exact Below.refl _ _ | refine bl_alloc ?_ _ | refine bl_drewN ?_ _ | refine bl_trans (by assumption) ?_ | refine bl_set ?_ (by first | omega | (simp; done) | (simp; omega)) _))
      obtain ⟨a1, c1, rfl⟩ := hR.shape
      have R := Lib.hid hR
      clear hR
      have kw2_0_0 : w2.cell? ⟨w.heap.size, 0, none⟩ = some (.int .i64 wd) := cell_after hkw2 sw1_0 kw1_0_0
      have kw2_0_1 : w2.cell? ⟨w.heap.size, 1, none⟩ = some (.slice a n c) := cell_after hkw2 sw1_0 kw1_0_1
      have sw2_0 : w.heap.size < w2.heap.size := size_after hkw2 sw1_0
      have kw2_1_0 : w2.cell? ⟨w.heap.size + 1, 0, none⟩ = some (.int .i64 0) := cell_after hkw2 sw1_1 kw1_1_0
      have fw2_1_0 : w2.frozen? ⟨w.heap.size + 1, 0, none⟩ = false := frozen_after hkw2 sw1_1 fw1_1_0
      have kw2_1_1 : w2.cell? ⟨w.heap.size + 1, 1, none⟩ = some (.int .i64 0) := cell_after hkw2 sw1_1 kw1_1_1
      have fw2_1_1 : w2.frozen? ⟨w.heap.size + 1, 1, none⟩ = false := frozen_after hkw2 sw1_1 fw1_1_1
      have kw2_1_2 : w2.cell? ⟨w.heap.size + 1, 2, none⟩ = some (.int .i64 0) := cell_after hkw2 sw1_1 kw1_1_2
      have fw2_1_2 : w2.frozen? ⟨w.heap.size + 1, 2, none⟩ = false := frozen_after hkw2 sw1_1 fw1_1_2
      have sw2_1 : w.heap.size + 1 < w2.heap.size := size_after hkw2 sw1_1
      have hBw2 : Below w.heap.size w w2 := (by repeat (first | exact HBw1.out | exact Below.refl _ _ | refine bl_alloc ?_ _ | refine bl_drewN ?_ _ | refine bl_trans (by assumption) ?_ | refine bl_set ?_ (by first | omega | (simp; done) | (simp; omega)) _))
      have HBw2 := Lib.hid hBw2
      clear hBw2 hcw2 hfw2 hbw2 hkw2 kw1_0_0 kw1_0_1 sw1_0 kw1_1_0 kw1_1_1 kw1_1_2 fw1_1_0 fw1_1_1 fw1_1_2 sw1_1
      rw [h0]
      go_wp2
      exact bodyPost_ret (v := .tuple #[.agg #[.int .i64 0, .int .i64 0, .int .i64 0], .bool false]) (by simp [results, Try.results37, go_sem, kw2_0_0, kw2_0_1, kw2_1_0, kw2_1_1, kw2_1_2, fw2_1_0, fw2_1_1, fw2_1_2]) rfl ⟨by simp, (by repeat (first | refine bl_set ?_ (by first | omega | (simp; done) | (simp; omega)) _ | exact HBw2.out))⟩
    · obtain ⟨g0, g1, g2⟩ := fst_yes (wd := wd) (n := n) (f := f) (by omega)
      rw [g0, g1, g2]
      have e0 : decide (0 < solN wd n f) = true := by simp; omega
      rw [e0]
      clear g0 g1 g2 e0
      have n0 : ((cnt n f wd : Int) == 0) = false := by simp; omega
      have n1 : (0 : Int) < (cnt n f wd : Int) := by omega
      rw [hY] at hN
      clear hY
      go_enter Try.func37, Try.ntmps37
      go_wp2_with fail
      refine (pzGood_any wd _ n f _ (HH.out.keep (by repeat (first | exact Below.refl _ _ | refine bl_alloc ?_ _ | refine bl_drewN ?_ _ | refine bl_trans (by assumption) ?_ | refine bl_set ?_ (by first | omega | (simp; done) | (simp; omega)) _)))).mono ?_
      rintro e w1 ⟨rfl, hbw1⟩
      obtain ⟨hcw1, hfw1⟩ := bcell hbw1
      have hzw1 := bsize hbw1
      (try simp only [World.size_alloc, World.size_setCell] at hzw1)
      have kw1_0_0 : w1.cell? ⟨w.heap.size, 0, none⟩ = some (.int .i64 wd) := by rw [hcw1 _ _ (by first | (simp; done) | omega | (simp; omega))]; first | assumption | (simp [go_sem]; done) | (simp [go_sem]; done) | (simp [go_sem, *]; done)
      have kw1_0_1 : w1.cell? ⟨w.heap.size, 1, none⟩ = some (.slice a n c) := by rw [hcw1 _ _ (by first | (simp; done) | omega | (simp; omega))]; first | assumption | (simp [go_sem]; done) | (simp [go_sem]; done) | (simp [go_sem, *]; done)
      have sw1_0 : w.heap.size < w1.heap.size := by first | omega | (simp at *; omega)
      have kw1_1_0 : w1.cell? ⟨w.heap.size + 1, 0, none⟩ = some (.int .i64 0) := by rw [hcw1 _ _ (by first | (simp; done) | omega | (simp; omega))]; first | assumption | (simp [go_sem]; done) | (simp [go_sem]; done) | (simp [go_sem, *]; done)
      have fw1_1_0 : w1.frozen? ⟨w.heap.size + 1, 0, none⟩ = false := by rw [hfw1 _ _ (by first | (simp; done) | omega | (simp; omega))]; first | assumption | (simp [go_sem]; done) | (simp [go_sem]; done) | (simp [go_sem, *]; done)
      have kw1_1_1 : w1.cell? ⟨w.heap.size + 1, 1, none⟩ = some (.int .i64 0) := by rw [hcw1 _ _ (by first | (simp; done) | omega | (simp; omega))]; first | assumption | (simp [go_sem]; done) | (simp [go_sem]; done) | (simp [go_sem, *]; done)
      have fw1_1_1 : w1.frozen? ⟨w.heap.size + 1, 1, none⟩ = false := by rw [hfw1 _ _ (by first | (simp; done) | omega | (simp; omega))]; first | assumption | (simp [go_sem]; done) | (simp [go_sem]; done) | (simp [go_sem, *]; done)
      have kw1_1_2 : w1.cell? ⟨w.heap.size + 1, 2, none⟩ = some (.int .i64 0) := by rw [hcw1 _ _ (by first | (simp; done) | omega | (simp; omega))]; first | assumption | (simp [go_sem]; done) | (simp [go_sem]; done) | (simp [go_sem, *]; done)
      have fw1_1_2 : w1.frozen? ⟨w.heap.size + 1, 2, none⟩ = false := by rw [hfw1 _ _ (by first | (simp; done) | omega | (simp; omega))]; first | assumption | (simp [go_sem]; done) | (simp [go_sem]; done) | (simp [go_sem, *]; done)
      have sw1_1 : w.heap.size + 1 < w1.heap.size := by first | omega | (simp at *; omega)
      have hBw1 : Below w.heap.size w w1 := (by repeat (first | exact Below.refl _ _ | refine bl_alloc ?_ _ | refine bl_drewN ?_ _ | refine bl_trans (by assumption) ?_ | refine bl_set ?_ (by first | omega | (simp; done) | (simp; omega)) _))
      have HBw1 := Lib.hid hBw1
      clear hBw1 hcw1 hfw1 hbw1
      rw [hk]
      go_wp2_with fail
      refine (pzAll_any wd _ n f _ (HH.out.keep (by repeat (first | exact Below.refl _ _ | exact HBw1.out | refine bl_alloc ?_ _ | refine bl_drewN ?_ _ | refine bl_trans (by assumption) ?_ | refine bl_set ?_ (by first | omega | (simp; done) | (simp; omega)) _))) K4.out k1 k2).mono ?_
      rintro e w2 ⟨u, rfl, hR, hbw2⟩
      obtain ⟨hcw2, hfw2⟩ := bcell hbw2
      have hzw2 := bsize hbw2
      (try simp only [World.size_alloc, World.size_setCell] at hzw2)
      have hkw2 : Below w1.heap.size w1 w2 := (by repeat (first | exact Below.refl _ _ | refine bl_alloc ?_ _ | refine bl_drewN ?_ _ | refine bl_trans (by assumption) ?_ | refine bl_set ?_ (by first | omega | (simp; done) | (simp; omega)) _))
      obtain ⟨a1, c1, rfl⟩ := hR.shape
      have R := Lib.hid hR
      clear hR
      have kw2_0_0 : w2.cell? ⟨w.heap.size, 0, none⟩ = some (.int .i64 wd) := cell_after hkw2 sw1_0 kw1_0_0
      have kw2_0_1 : w2.cell? ⟨w.heap.size, 1, none⟩ = some (.slice a n c) := cell_after hkw2 sw1_0 kw1_0_1
      have sw2_0 : w.heap.size < w2.heap.size := size_after hkw2 sw1_0
      have kw2_1_0 : w2.cell? ⟨w.heap.size + 1, 0, none⟩ = some (.int .i64 0) := cell_after hkw2 sw1_1 kw1_1_0
      have fw2_1_0 : w2.frozen? ⟨w.heap.size + 1, 0, none⟩ = false := frozen_after hkw2 sw1_1 fw1_1_0
      have kw2_1_1 : w2.cell? ⟨w.heap.size + 1, 1, none⟩ = some (.int .i64 0) := cell_after hkw2 sw1_1 kw1_1_1
      have fw2_1_1 : w2.frozen? ⟨w.heap.size + 1, 1, none⟩ = false := frozen_after hkw2 sw1_1 fw1_1_1
      have kw2_1_2 : w2.cell? ⟨w.heap.size + 1, 2, none⟩ = some (.int .i64 0) := cell_after hkw2 sw1_1 kw1_1_2
      have fw2_1_2 : w2.frozen? ⟨w.heap.size + 1, 2, none⟩ = false := frozen_after hkw2 sw1_1 fw1_1_2
      have sw2_1 : w.heap.size + 1 < w2.heap.size := size_after hkw2 sw1_1
      have hBw2 : Below w.heap.size w w2 := (by repeat (first | exact HBw1.out | exact Below.refl _ _ | refine bl_alloc ?_ _ | refine bl_drewN ?_ _ | refine bl_trans (by assumption) ?_ | refine bl_set ?_ (by first | omega | (simp; done) | (simp; omega)) _))
      have HBw2 := Lib.hid hBw2
      clear hBw2 hcw2 hfw2 hbw2 hkw2 kw1_0_0 kw1_0_1 sw1_0 kw1_1_0 kw1_1_1 kw1_1_2 fw1_1_0 fw1_1_1 fw1_1_2 sw1_1
      obtain ⟨b1, o1, c2, hv, hb1, hlen, hcs⟩ := R.out.cells (by omega)
      simp only [Value.slice.injEq, true_and] at hv
      obtain ⟨rfl, rfl⟩ := hv
      obtain ⟨q0, q1, q2⟩ := hcs 0 (by omega)
      simp only [Nat.zero_mul, Nat.add_zero] at q0 q1 q2
      clear hcs hlen
      go_wp2
      exact bodyPost_ret (v := .tuple #[.agg #[.int .i64 wd, .int .i64 (pL ((sol n f wd 144).getD 0 0)), .int .i64 (pR ((sol n f wd 144).getD 0 0))], .bool true]) (by simp [results, Try.results37, go_sem, kw2_0_0, kw2_0_1, kw2_1_0, kw2_1_1, kw2_1_2, fw2_1_0, fw2_1_1, fw2_1_2]) rfl ⟨rfl, (by repeat (first | refine bl_set ?_ (by first | omega | (simp; done) | (simp; omega)) _ | exact HBw2.out))⟩
def sLj (wd : Int) (n : Nat) (f : Nat → Int) (j : Nat) : Int := sure (pL ((sol n f wd 144).getD 0 0)) (((sol n f wd 144).take j).map pL)
theorem sLj_zero (wd : Int) (n : Nat) (f : Nat → Int) : sLj wd n f 0 = pL ((sol n f wd 144).getD 0 0) := sure_zero _ _ _
theorem sLj_succ (wd : Int) (n : Nat) (f : Nat → Int) (j : Nat) (hj : j < (sol n f wd 144).length) : sLj wd n f (j + 1) = if pL ((sol n f wd 144).getD j 0) = sLj wd n f j then sLj wd n f j else -1 := sure_take _ _ _ j hj
theorem sLj_all (wd : Int) (n : Nat) (f : Nat → Int) (j : Nat) (hj : (sol n f wd 144).length ≤ j) : sLj wd n f j = sure (pL ((sol n f wd 144).getD 0 0)) ((sol n f wd 144).map pL) := sure_all _ _ _ j hj
def sRj (wd : Int) (n : Nat) (f : Nat → Int) (j : Nat) : Int := sure (pR ((sol n f wd 144).getD 0 0)) (((sol n f wd 144).take j).map pR)
theorem sRj_zero (wd : Int) (n : Nat) (f : Nat → Int) : sRj wd n f 0 = pR ((sol n f wd 144).getD 0 0) := sure_zero _ _ _
theorem sRj_succ (wd : Int) (n : Nat) (f : Nat → Int) (j : Nat) (hj : j < (sol n f wd 144).length) : sRj wd n f (j + 1) = if pR ((sol n f wd 144).getD j 0) = sRj wd n f j then sRj wd n f j else -1 := sure_take _ _ _ j hj
theorem sRj_all (wd : Int) (n : Nat) (f : Nat → Int) (j : Nat) (hj : (sol n f wd 144).length ≤ j) : sRj wd n f j = sure (pR ((sol n f wd 144).getD 0 0)) ((sol n f wd 144).map pR) := sure_all _ _ _ j hj
set_option maxHeartbeats 1600000 in
theorem impl_SureHeights (wd : Int) (v : Value) (n : Nat) (f : Nat → Int) (w : World) (h : PClu w v n f) :
    Calls Try.prog 41 #[.agg #[.int .i64 wd, v]] w fun e w' => e = .returned (.tuple #[.int .i64 (surL wd n f), .int .i64 (surR wd n f), .bool (decide (0 < solN wd n f))]) ∧ Below w.heap.size w w' := by
  obtain ⟨a, c, rfl⟩ := h.shape
  have HH := Lib.hid h
  clear h
  have hN := solN_le wd n f
  by_cases h0 : solN wd n f = 0
  · obtain ⟨g0, g1⟩ := sur_no h0
    rw [g0, g1, h0]
    clear g0 g1
    go_enter Try.func41, Try.ntmps41
    go_wp2_with fail
    refine (impl_Solutions wd _ n f _ (HH.out.keep (by repeat (first | exact Below.refl _ _ | refine bl_alloc ?_ _ | refine bl_drewN ?_ _ | refine bl_trans (by assumption) ?_ | refine bl_set ?_ (by first | omega | (simp; done) | (simp; omega)) _)))).mono ?_
    rintro e w1 ⟨u, rfl, hR, hbw1⟩
    obtain ⟨hcw1, hfw1⟩ := bcell hbw1
    have hzw1 := bsize hbw1
    (try simp only [World.size_alloc, World.size_setCell] at hzw1)
    obtain ⟨a1, c1, rfl⟩ := hR.shape
    have R := Lib.hid hR
    clear hR
    have kw1_0_0 : w1.cell? ⟨w.heap.size, 0, none⟩ = some (.int .i64 wd) := by rw [hcw1 _ _ (by first | (simp; done) | omega | (simp; omega))]; first | assumption | (simp [go_sem]; done) | (simp [go_sem]; done) | (simp [go_sem, *]; done)
    have kw1_0_1 : w1.cell? ⟨w.heap.size, 1, none⟩ = some (.slice a n c) := by rw [hcw1 _ _ (by first | (simp; done) | omega | (simp; omega))]; first | assumption | (simp [go_sem]; done) | (simp [go_sem]; done) | (simp [go_sem, *]; done)
    have sw1_0 : w.heap.size < w1.heap.size := by first | omega | (simp at *; omega)
    have hBw1 : Below w.heap.size w w1 := (by repeat (first | exact Below.refl _ _ | refine bl_alloc ?_ _ | refine bl_drewN ?_ _ | refine bl_trans (by assumption) ?_ | refine bl_set ?_ (by first | omega | (simp; done) | (simp; omega)) _))
    have HBw1 := Lib.hid hBw1
    clear hBw1 hcw1 hfw1 hbw1
    rw [h0]
    go_wp2
    go_ret3
    exact ⟨rfl, HBw1.out⟩
  · obtain ⟨g0, g1⟩ := sur_yes (wd := wd) (n := n) (f := f) (by omega)
    rw [g0, g1]
    have e0 : decide (0 < solN wd n f) = true := by simp; omega
    rw [e0]
    have hk := okP_of h0
    have hL := Lib.hid (solL_yes hk)
    clear g0 g1 e0
    have n0 : ((solN wd n f : Int) == 0) = false := by simp; omega
    have n1 : (0 : Int) < (solN wd n f : Int) := by omega
    go_enter Try.func41, Try.ntmps41
    go_wp2_with fail
    refine (impl_Solutions wd _ n f _ (HH.out.keep (by repeat (first | exact Below.refl _ _ | refine bl_alloc ?_ _ | refine bl_drewN ?_ _ | refine bl_trans (by assumption) ?_ | refine bl_set ?_ (by first | omega | (simp; done) | (simp; omega)) _)))).mono ?_
    rintro e w1 ⟨u, rfl, hR, hbw1⟩
    obtain ⟨hcw1, hfw1⟩ := bcell hbw1
    have hzw1 := bsize hbw1
    (try simp only [World.size_alloc, World.size_setCell] at hzw1)
    obtain ⟨a1, c1, rfl⟩ := hR.shape
    have R := Lib.hid hR
    clear hR
    have kw1_0_0 : w1.cell? ⟨w.heap.size, 0, none⟩ = some (.int .i64 wd) := by rw [hcw1 _ _ (by first | (simp; done) | omega | (simp; omega))]; first | assumption | (simp [go_sem]; done) | (simp [go_sem]; done) | (simp [go_sem, *]; done)
    have kw1_0_1 : w1.cell? ⟨w.heap.size, 1, none⟩ = some (.slice a n c) := by rw [hcw1 _ _ (by first | (simp; done) | omega | (simp; omega))]; first | assumption | (simp [go_sem]; done) | (simp [go_sem]; done) | (simp [go_sem, *]; done)
    have sw1_0 : w.heap.size < w1.heap.size := by first | omega | (simp at *; omega)
    have hBw1 : Below w.heap.size w w1 := (by repeat (first | exact Below.refl _ _ | refine bl_alloc ?_ _ | refine bl_drewN ?_ _ | refine bl_trans (by assumption) ?_ | refine bl_set ?_ (by first | omega | (simp; done) | (simp; omega)) _))
    have HBw1 := Lib.hid hBw1
    clear hBw1 hcw1 hfw1 hbw1
    rw [hL.out] at R
    obtain ⟨b1, o1, c2, hv, hb1, hlen, hcs⟩ := R.out.cells (by omega)
    simp only [Value.slice.injEq, true_and] at hv
    obtain ⟨rfl, rfl⟩ := hv
    obtain ⟨q0, q1, q2⟩ := hcs 0 (by omega)
    simp only [Nat.zero_mul, Nat.add_zero] at q0 q1 q2
    have HLEN := Lib.hid hlen
    clear hcs hlen
    go_wp2_with fail
    go_quiet (fail)
    have R := Lib.hid (R.out.keep (below_drewN (Below.refl _ _) nq))
    have HBd := Lib.hid (bl_drewN HBw1.out nq)
    generalize w1.drewN nq = wd' at *
    clear q0 q1 q2
    go_wp2_with fail
    go_loopw [7, 8, 29] (fun lv rv iv wr => ∃ j : Nat, j ≤ solN wd n f ∧ iv = .int .i64 (j : Int) ∧ lv = .int .i64 (sLj wd n f j) ∧ rv = .int .i64 (sRj wd n f j) ∧ Below wd'.heap.size wd' wr) (fun _ _ iv _ => (solN wd n f) - (intOf iv).toNat)
    case atStart => exact ⟨0, Nat.zero_le _, rfl, by rw [sLj_zero]; rfl, by rw [sRj_zero]; rfl, Below.refl _ _⟩
    case round =>
      obtain ⟨j, hj, rfl, rfl, rfl, hW⟩ := hrel
      have HW := Lib.hid hW
      clear hW
      by_cases hlt : j < solN wd n f
      · obtain ⟨b3, o3, c3, hv, hb3, hlen, hcs⟩ := (R.out.keep HW.out).cells (by omega)
        simp only [Value.slice.injEq, Option.some.injEq, Addr.mk.injEq, and_true, true_and] at hv
        obtain ⟨⟨rfl, rfl⟩, rfl⟩ := hv
        obtain ⟨q0, q1, q2⟩ := hcs j (by omega)
        have hlt' : (j : Int) < ((solN wd n f : Nat) : Int) := by omega
        have SL := Lib.hid (sLj_succ wd n f j (by have := HLEN.out; omega))
        have SR := Lib.hid (sRj_succ wd n f j (by have := HLEN.out; omega))
        clear hcs hlen
        generalize sLj wd n f j = X at *
        generalize sRj wd n f j = Y at *
        generalize pL ((sol n f wd 144).getD j 0) = xj at *
        generalize pR ((sol n f wd 144).getD j 0) = yj at *
        have HA := Lib.hid (fun o => bl_alloc HW.out o)
        by_cases hx : xj = X
        · by_cases hy : yj = Y
          · have SL2 := Lib.hid (SL.out.trans (if_pos hx))
            have SR2 := Lib.hid (SR.out.trans (if_pos hy))
            clear SL SR
            go_wp2
            go_roundw
            case rel => exact ⟨j + 1, by omega, by go_num, by rw [SL2.out], by rw [SR2.out], HA.out _⟩
            case measure => simp only [intOf]; omega
          · have SL2 := Lib.hid (SL.out.trans (if_pos hx))
            have SR2 := Lib.hid (SR.out.trans (if_neg hy))
            clear SL SR
            go_wp2
            go_roundw
            case rel => exact ⟨j + 1, by omega, by go_num, by rw [SL2.out], by rw [SR2.out], HA.out _⟩
            case measure => simp only [intOf]; omega
        · by_cases hy : yj = Y
          · have SL2 := Lib.hid (SL.out.trans (if_neg hx))
            have SR2 := Lib.hid (SR.out.trans (if_pos hy))
            clear SL SR
            go_wp2
            go_roundw
            case rel => exact ⟨j + 1, by omega, by go_num, by rw [SL2.out], by rw [SR2.out], HA.out _⟩
            case measure => simp only [intOf]; omega
          · have SL2 := Lib.hid (SL.out.trans (if_neg hx))
            have SR2 := Lib.hid (SR.out.trans (if_neg hy))
            clear SL SR
            go_wp2
            go_roundw
            case rel => exact ⟨j + 1, by omega, by go_num, by rw [SL2.out], by rw [SR2.out], HA.out _⟩
            case measure => simp only [intOf]; omega
      · have hjn : j = solN wd n f := by omega
        have SL2 := Lib.hid (sLj_all wd n f (solN wd n f) (by have := HLEN.out; omega))
        have SR2 := Lib.hid (sRj_all wd n f (solN wd n f) (by have := HLEN.out; omega))
        have hlt' : ¬ (j : Int) < ((solN wd n f : Nat) : Int) := by omega
        go_wp2
        go_ret3
        exact ⟨by simp [SL2.out, SR2.out], bl_trans HW.out HBd.out⟩
set_option maxHeartbeats 1600000 in
theorem spec_SureHeights (wd : Int) (v : Value) (n : Nat) (f : Nat → Int) (w : World) (h : PClu w v n f) :
    Calls Try.prog 40 #[.agg #[.int .i64 wd, v]] w fun e w' => e = .returned (.tuple #[.int .i64 (surL wd n f), .int .i64 (surR wd n f), .bool (decide (0 < solN wd n f))]) ∧ Below w.heap.size w w' := by
  obtain ⟨a, c, rfl⟩ := h.shape
  have HH := Lib.hid h
  clear h
  have hN := solN_le wd n f
  cases hk : okP wd n f
  · have h0 := solN_no hk
    obtain ⟨g0, g1⟩ := sur_no h0
    rw [g0, g1, h0]
    clear g0 g1
    go_enter Try.func40, Try.ntmps40
    go_wp2_with fail
    refine (pzGood_any wd _ n f _ (HH.out.keep (by repeat (first | exact Below.refl _ _ | refine bl_alloc ?_ _ | refine bl_drewN ?_ _ | refine bl_trans (by assumption) ?_ | refine bl_set ?_ (by first | omega | (simp; done) | (simp; omega)) _)))).mono ?_
    rintro e w1 ⟨rfl, hbw1⟩
    obtain ⟨hcw1, hfw1⟩ := bcell hbw1
    have hzw1 := bsize hbw1
    (try simp only [World.size_alloc, World.size_setCell] at hzw1)
    have kw1_0_0 : w1.cell? ⟨w.heap.size, 0, none⟩ = some (.int .i64 wd) := by rw [hcw1 _ _ (by first | (simp; done) | omega | (simp; omega))]; first | assumption | (simp [go_sem]; done) | (simp [go_sem]; done) | (simp [go_sem, *]; done)
    have kw1_0_1 : w1.cell? ⟨w.heap.size, 1, none⟩ = some (.slice a n c) := by rw [hcw1 _ _ (by first | (simp; done) | omega | (simp; omega))]; first | assumption | (simp [go_sem]; done) | (simp [go_sem]; done) | (simp [go_sem, *]; done)
    have sw1_0 : w.heap.size < w1.heap.size := by first | omega | (simp at *; omega)
    have hBw1 : Below w.heap.size w w1 := (by repeat (first | exact Below.refl _ _ | refine bl_alloc ?_ _ | refine bl_drewN ?_ _ | refine bl_trans (by assumption) ?_ | refine bl_set ?_ (by first | omega | (simp; done) | (simp; omega)) _))
    have HBw1 := Lib.hid hBw1
    clear hBw1 hcw1 hfw1 hbw1
    rw [hk]
    go_wp2
    go_ret3
    exact ⟨rfl, HBw1.out⟩
  · obtain ⟨⟨k1, k2⟩, k3, k4⟩ := okP_true hk
    have K4 := Lib.hid k4
    clear k4
    have hY := solN_yes hk
    by_cases h0 : cnt n f wd = 0
    · obtain ⟨g0, g1⟩ := sur_no (wd := wd) (n := n) (f := f) (by omega)
      rw [g0, g1, hY, h0]
      clear g0 g1
      go_enter Try.func40, Try.ntmps40
      go_wp2_with fail
      refine (pzGood_any wd _ n f _ (HH.out.keep (by repeat (first | exact Below.refl _ _ | refine bl_alloc ?_ _ | refine bl_drewN ?_ _ | refine bl_trans (by assumption) ?_ | refine bl_set ?_ (by first | omega | (simp; done) | (simp; omega)) _)))).mono ?_
      rintro e w1 ⟨rfl, hbw1⟩
      obtain ⟨hcw1, hfw1⟩ := bcell hbw1
      have hzw1 := bsize hbw1
      (try simp only [World.size_alloc, World.size_setCell] at hzw1)
      have kw1_0_0 : w1.cell? ⟨w.heap.size, 0, none⟩ = some (.int .i64 wd) := by rw [hcw1 _ _ (by first | (simp; done) | omega | (simp; omega))]; first | assumption | (simp [go_sem]; done) | (simp [go_sem]; done) | (simp [go_sem, *]; done)
      have kw1_0_1 : w1.cell? ⟨w.heap.size, 1, none⟩ = some (.slice a n c) := by rw [hcw1 _ _ (by first | (simp; done) | omega | (simp; omega))]; first | assumption | (simp [go_sem]; done) | (simp [go_sem]; done) | (simp [go_sem, *]; done)
      have sw1_0 : w.heap.size < w1.heap.size := by first | omega | (simp at *; omega)
      have hBw1 : Below w.heap.size w w1 := (by repeat (first | exact Below.refl _ _ | refine bl_alloc ?_ _ | refine bl_drewN ?_ _ | refine bl_trans (by assumption) ?_ | refine bl_set ?_ (by first | omega | (simp; done) | (simp; omega)) _))
      have HBw1 := Lib.hid hBw1
      clear hBw1 hcw1 hfw1 hbw1
      rw [hk]
      go_wp2_with fail
      refine (pzAll_any wd _ n f _ (HH.out.keep (by repeat (first | exact Below.refl _ _ | exact HBw1.out | refine bl_alloc ?_ _ | refine bl_drewN ?_ _ | refine bl_trans (by assumption) ?_ | refine bl_set ?_ (by first | omega | (simp; done) | (simp; omega)) _))) K4.out k1 k2).mono ?_
      rintro e w2 ⟨u, rfl, hR, hbw2⟩
      obtain ⟨hcw2, hfw2⟩ := bcell hbw2
      have hzw2 := bsize hbw2
      (try simp only [World.size_alloc, World.size_setCell] at hzw2)
      have hkw2 : Below w1.heap.size w1 w2 := (by repeat (first | exact Below.refl _ _ | refine bl_alloc ?_ _ | refine bl_drewN ?_ _ | refine bl_trans (by assumption) ?_ | refine bl_set ?_ (by first | omega | (simp; done) | (simp; omega)) _))
      obtain ⟨a1, c1, rfl⟩ := hR.shape
      have R := Lib.hid hR
      clear hR
      have kw2_0_0 : w2.cell? ⟨w.heap.size, 0, none⟩ = some (.int .i64 wd) := cell_after hkw2 sw1_0 kw1_0_0
      have kw2_0_1 : w2.cell? ⟨w.heap.size, 1, none⟩ = some (.slice a n c) := cell_after hkw2 sw1_0 kw1_0_1
      have sw2_0 : w.heap.size < w2.heap.size := size_after hkw2 sw1_0
      have hBw2 : Below w.heap.size w w2 := (by repeat (first | exact HBw1.out | exact Below.refl _ _ | refine bl_alloc ?_ _ | refine bl_drewN ?_ _ | refine bl_trans (by assumption) ?_ | refine bl_set ?_ (by first | omega | (simp; done) | (simp; omega)) _))
      have HBw2 := Lib.hid hBw2
      clear hBw2 hcw2 hfw2 hbw2 hkw2 kw1_0_0 kw1_0_1 sw1_0
      rw [h0]
      go_wp2
      go_ret3
      exact ⟨rfl, HBw2.out⟩
    · obtain ⟨g0, g1⟩ := sur_yes (wd := wd) (n := n) (f := f) (by omega)
      rw [g0, g1]
      have e0 : decide (0 < solN wd n f) = true := by simp; omega
      rw [e0]
      clear g0 g1 e0
      have n0 : ((cnt n f wd : Int) == 0) = false := by simp; omega
      have n1 : (0 : Int) < (cnt n f wd : Int) := by omega
      rw [hY] at hN
      clear hY
      go_enter Try.func40, Try.ntmps40
      go_wp2_with fail
      refine (pzGood_any wd _ n f _ (HH.out.keep (by repeat (first | exact Below.refl _ _ | refine bl_alloc ?_ _ | refine bl_drewN ?_ _ | refine bl_trans (by assumption) ?_ | refine bl_set ?_ (by first | omega | (simp; done) | (simp; omega)) _)))).mono ?_
      rintro e w1 ⟨rfl, hbw1⟩
      obtain ⟨hcw1, hfw1⟩ := bcell hbw1
      have hzw1 := bsize hbw1
      (try simp only [World.size_alloc, World.size_setCell] at hzw1)
      have kw1_0_0 : w1.cell? ⟨w.heap.size, 0, none⟩ = some (.int .i64 wd) := by rw [hcw1 _ _ (by first | (simp; done) | omega | (simp; omega))]; first | assumption | (simp [go_sem]; done) | (simp [go_sem]; done) | (simp [go_sem, *]; done)
      have kw1_0_1 : w1.cell? ⟨w.heap.size, 1, none⟩ = some (.slice a n c) := by rw [hcw1 _ _ (by first | (simp; done) | omega | (simp; omega))]; first | assumption | (simp [go_sem]; done) | (simp [go_sem]; done) | (simp [go_sem, *]; done)
      have sw1_0 : w.heap.size < w1.heap.size := by first | omega | (simp at *; omega)
      have hBw1 : Below w.heap.size w w1 := (by repeat (first | exact Below.refl _ _ | refine bl_alloc ?_ _ | refine bl_drewN ?_ _ | refine bl_trans (by assumption) ?_ | refine bl_set ?_ (by first | omega | (simp; done) | (simp; omega)) _))
      have HBw1 := Lib.hid hBw1
      clear hBw1 hcw1 hfw1 hbw1
      rw [hk]
      go_wp2_with fail
      refine (pzAll_any wd _ n f _ (HH.out.keep (by repeat (first | exact Below.refl _ _ | exact HBw1.out | refine bl_alloc ?_ _ | refine bl_drewN ?_ _ | refine bl_trans (by assumption) ?_ | refine bl_set ?_ (by first | omega | (simp; done) | (simp; omega)) _))) K4.out k1 k2).mono ?_
      rintro e w2 ⟨u, rfl, hR, hbw2⟩
      obtain ⟨hcw2, hfw2⟩ := bcell hbw2
      have hzw2 := bsize hbw2
      (try simp only [World.size_alloc, World.size_setCell] at hzw2)
      have hkw2 : Below w1.heap.size w1 w2 := (by repeat (first | exact Below.refl _ _ | refine bl_alloc ?_ _ | refine bl_drewN ?_ _ | refine bl_trans (by assumption) ?_ | refine bl_set ?_ (by first | omega | (simp; done) | (simp; omega)) _))
      obtain ⟨a1, c1, rfl⟩ := hR.shape
      have R := Lib.hid hR
      clear hR
      have kw2_0_0 : w2.cell? ⟨w.heap.size, 0, none⟩ = some (.int .i64 wd) := cell_after hkw2 sw1_0 kw1_0_0
      have kw2_0_1 : w2.cell? ⟨w.heap.size, 1, none⟩ = some (.slice a n c) := cell_after hkw2 sw1_0 kw1_0_1
      have sw2_0 : w.heap.size < w2.heap.size := size_after hkw2 sw1_0
      have hBw2 : Below w.heap.size w w2 := (by repeat (first | exact HBw1.out | exact Below.refl _ _ | refine bl_alloc ?_ _ | refine bl_drewN ?_ _ | refine bl_trans (by assumption) ?_ | refine bl_set ?_ (by first | omega | (simp; done) | (simp; omega)) _))
      have HBw2 := Lib.hid hBw2
      clear hBw2 hcw2 hfw2 hbw2 hkw2 kw1_0_0 kw1_0_1 sw1_0
      obtain ⟨b1, o1, c2, hv, hb1, hlen, hcs⟩ := R.out.cells (by omega)
      simp only [Value.slice.injEq, true_and] at hv
      obtain ⟨rfl, rfl⟩ := hv
      obtain ⟨q0, q1, q2⟩ := hcs 0 (by omega)
      simp only [Nat.zero_mul, Nat.add_zero] at q0 q1 q2
      have HLEN := Lib.hid hlen
      clear hcs hlen
      go_wp2_with fail
      go_quiet (fail)
      have R := Lib.hid (R.out.keep (below_drewN (Below.refl _ _) nq))
      have HBd := Lib.hid (bl_drewN HBw2.out nq)
      generalize w2.drewN nq = wd' at *
      clear q0 q1 q2
      go_wp2_with fail
      go_loopw [6, 7, 31] (fun lv rv iv wr => ∃ j : Nat, j ≤ cnt n f wd ∧ iv = .int .i64 (j : Int) ∧ lv = .int .i64 (sLj wd n f j) ∧ rv = .int .i64 (sRj wd n f j) ∧ Below wd'.heap.size wd' wr) (fun _ _ iv _ => (cnt n f wd) - (intOf iv).toNat)
      case atStart => exact ⟨0, Nat.zero_le _, rfl, by rw [sLj_zero]; rfl, by rw [sRj_zero]; rfl, Below.refl _ _⟩
      case round =>
        obtain ⟨j, hj, rfl, rfl, rfl, hW⟩ := hrel
        have HW := Lib.hid hW
        clear hW
        by_cases hlt : j < cnt n f wd
        · obtain ⟨b3, o3, c3, hv, hb3, hlen, hcs⟩ := (R.out.keep HW.out).cells (by omega)
          simp only [Value.slice.injEq, Option.some.injEq, Addr.mk.injEq, and_true, true_and] at hv
          obtain ⟨⟨rfl, rfl⟩, rfl⟩ := hv
          obtain ⟨q0, q1, q2⟩ := hcs j (by omega)
          have hlt' : (j : Int) < ((cnt n f wd : Nat) : Int) := by omega
          have SL := Lib.hid (sLj_succ wd n f j (by have := HLEN.out; omega))
          have SR := Lib.hid (sRj_succ wd n f j (by have := HLEN.out; omega))
          clear hcs hlen
          generalize sLj wd n f j = X at *
          generalize sRj wd n f j = Y at *
          generalize pL ((sol n f wd 144).getD j 0) = xj at *
          generalize pR ((sol n f wd 144).getD j 0) = yj at *
          have HA := Lib.hid (fun o => bl_alloc HW.out o)
          by_cases hx : xj = X
          · by_cases hy : yj = Y
            · have SL2 := Lib.hid (SL.out.trans (if_pos hx))
              have SR2 := Lib.hid (SR.out.trans (if_pos hy))
              clear SL SR
              go_wp2
              go_roundw
              case rel => exact ⟨j + 1, by omega, by go_num, by rw [SL2.out], by rw [SR2.out], HA.out _⟩
              case measure => simp only [intOf]; omega
            · have SL2 := Lib.hid (SL.out.trans (if_pos hx))
              have SR2 := Lib.hid (SR.out.trans (if_neg hy))
              clear SL SR
              go_wp2
              go_roundw
              case rel => exact ⟨j + 1, by omega, by go_num, by rw [SL2.out], by rw [SR2.out], HA.out _⟩
              case measure => simp only [intOf]; omega
          · by_cases hy : yj = Y
            · have SL2 := Lib.hid (SL.out.trans (if_neg hx))
              have SR2 := Lib.hid (SR.out.trans (if_pos hy))
              clear SL SR
              go_wp2
              go_roundw
              case rel => exact ⟨j + 1, by omega, by go_num, by rw [SL2.out], by rw [SR2.out], HA.out _⟩
              case measure => simp only [intOf]; omega
            · have SL2 := Lib.hid (SL.out.trans (if_neg hx))
              have SR2 := Lib.hid (SR.out.trans (if_neg hy))
              clear SL SR
              go_wp2
              go_roundw
              case rel => exact ⟨j + 1, by omega, by go_num, by rw [SL2.out], by rw [SR2.out], HA.out _⟩
              case measure => simp only [intOf]; omega
        · have hjn : j = cnt n f wd := by omega
          have SL2 := Lib.hid (sLj_all wd n f (cnt n f wd) (by have := HLEN.out; omega))
          have SR2 := Lib.hid (sRj_all wd n f (cnt n f wd) (by have := HLEN.out; omega))
          have hlt' : ¬ (j : Int) < ((cnt n f wd : Nat) : Int) := by omega
          go_wp2
          go_ret3
          exact ⟨by simp [SL2.out, SR2.out], bl_trans HW.out HBd.out⟩
end Go.Proofs.Ytgghceckpdfogaa

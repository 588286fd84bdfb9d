/- Solutions of puzzles, by the program and by the model. -/
import Derived.Test.YtahcfjpplkemdaaPZ5
namespace Go.Proofs.Ytahcfjpplkemdaa
open Go.RowKit
set_option linter.unusedVariables false
set_option linter.unusedSimpArgs false
def solN (wd : Int) (n : Nat) (f : Nat → Int) : Nat := if okP wd n f then cnt n f wd else 0
def solL (wd : Int) (n : Nat) (f : Nat → Int) : List Int := if okP wd n f then flat wd (sol n f wd 144) else []
theorem solN_yes {wd : Int} {n : Nat} {f : Nat → Int} (h : okP wd n f = true) : solN wd n f = cnt n f wd := by rw [solN, h]; rfl
theorem solN_no {wd : Int} {n : Nat} {f : Nat → Int} (h : okP wd n f = false) : solN wd n f = 0 := by rw [solN, h]; rfl
theorem solL_yes {wd : Int} {n : Nat} {f : Nat → Int} (h : okP wd n f = true) : solL wd n f = flat wd (sol n f wd 144) := by rw [solL, h]; rfl
theorem solL_no {wd : Int} {n : Nat} {f : Nat → Int} (h : okP wd n f = false) : solL wd n f = [] := by rw [solL, h]; rfl
theorem solN_le (wd : Int) (n : Nat) (f : Nat → Int) : solN wd n f ≤ 144 := by
  unfold solN
  split
  · exact cnt_le _ _ _
  · omega
theorem nat_one (N : Nat) : ((N : Int) == 1) = decide (N = 1) := by rw [Bool.eq_iff_iff]; simp; omega
theorem LLad.shape {w : World} {C n : Nat} {v : Value} {xs : List Int} (h : LLad w C v n xs) : ∃ a c, v = .slice a n c := h.2.toP.shape
theorem LLad.cells {w : World} {C n : Nat} {v : Value} {wd : Int} {is : List Nat} (h : LLad w C v n (flat wd is)) (h0 : 0 < n) : ∃ b off cap, v = .slice (some ⟨b, off, none⟩) n cap ∧ b < w.heap.size ∧ n = is.length ∧ ∀ i, i < n → w.cell? ⟨b, off + i * 3, none⟩ = some (.int .i64 wd) ∧ w.cell? ⟨b, off + i * 3 + 1, none⟩ = some (.int .i64 (pL (is.getD i 0))) ∧ w.cell? ⟨b, off + i * 3 + 2, none⟩ = some (.int .i64 (pR (is.getD i 0))) := by
  have e := h.1
  rw [flat_length] at e
  obtain ⟨b, off, cap, hv, hb, hc⟩ := h.2.toP.some_ h0
  refine ⟨b, off, cap, hv, hb, by omega, fun i hi => ?_⟩
  obtain ⟨c0, c1, c2⟩ := hc i hi
  obtain ⟨g0, g1, g2⟩ := flat_get wd is i (by omega)
  rw [g0] at c0
  rw [g1] at c1
  rw [g2] at c2
  exact ⟨c0, c1, c2⟩
def fst0 (wd : Int) (n : Nat) (f : Nat → Int) : Int := if 0 < solN wd n f then wd else 0
def fst1 (wd : Int) (n : Nat) (f : Nat → Int) : Int := if 0 < solN wd n f then pL ((sol n f wd 144).getD 0 0) else 0
def fst2 (wd : Int) (n : Nat) (f : Nat → Int) : Int := if 0 < solN wd n f then pR ((sol n f wd 144).getD 0 0) else 0
theorem fst_no {wd : Int} {n : Nat} {f : Nat → Int} (h : solN wd n f = 0) : fst0 wd n f = 0 ∧ fst1 wd n f = 0 ∧ fst2 wd n f = 0 := by simp [fst0, fst1, fst2, h]
theorem fst_yes {wd : Int} {n : Nat} {f : Nat → Int} (h : 0 < solN wd n f) : fst0 wd n f = wd ∧ fst1 wd n f = pL ((sol n f wd 144).getD 0 0) ∧ fst2 wd n f = pR ((sol n f wd 144).getD 0 0) := by simp [fst0, fst1, fst2, h]
def surL (wd : Int) (n : Nat) (f : Nat → Int) : Int := if 0 < solN wd n f then sure (pL ((sol n f wd 144).getD 0 0)) ((sol n f wd 144).map pL) else 0
def surR (wd : Int) (n : Nat) (f : Nat → Int) : Int := if 0 < solN wd n f then sure (pR ((sol n f wd 144).getD 0 0)) ((sol n f wd 144).map pR) else 0
theorem sur_no {wd : Int} {n : Nat} {f : Nat → Int} (h : solN wd n f = 0) : surL wd n f = 0 ∧ surR wd n f = 0 := by simp [surL, surR, h]
theorem sur_yes {wd : Int} {n : Nat} {f : Nat → Int} (h : 0 < solN wd n f) : surL wd n f = sure (pL ((sol n f wd 144).getD 0 0)) ((sol n f wd 144).map pL) ∧ surR wd n f = sure (pR ((sol n f wd 144).getD 0 0)) ((sol n f wd 144).map pR) := by simp [surL, surR, h]
theorem sure_take (g : Nat → Int) (x : Int) (is : List Nat) (j : Nat) (hj : j < is.length) : sure x ((is.take (j + 1)).map g) = if g (is.getD j 0) = sure x ((is.take j).map g) then sure x ((is.take j).map g) else -1 := by
  have e : is.take (j + 1) = is.take j ++ [is.getD j 0] := by
    rw [List.take_add_one]
    congr 1
    simp [List.getD, hj]
  rw [e, List.map_append]
  exact sure_snoc _ _ _
theorem sure_zero (g : Nat → Int) (x : Int) (is : List Nat) : sure x ((is.take 0).map g) = x := by simp [sure]
theorem sure_all (g : Nat → Int) (x : Int) (is : List Nat) (j : Nat) (hj : is.length ≤ j) : sure x ((is.take j).map g) = sure x (is.map g) := by rw [List.take_of_length_le hj]
theorem okP_of {wd : Int} {n : Nat} {f : Nat → Int} (h : ¬ solN wd n f = 0) : okP wd n f = true := by
  cases hk : okP wd n f
  · exact absurd (solN_no hk) h
  · rfl
attribute [local irreducible] sol flat cnt
def sLj (wd : Int) (n : Nat) (f : Nat → Int) (j : Nat) : Int := sure (pL ((sol n f wd 144).getD 0 0)) (((sol n f wd 144).take j).map pL)
theorem sLj_zero (wd : Int) (n : Nat) (f : Nat → Int) : sLj wd n f 0 = pL ((sol n f wd 144).getD 0 0) := sure_zero _ _ _
theorem sLj_succ (wd : Int) (n : Nat) (f : Nat → Int) (j : Nat) (hj : j < (sol n f wd 144).length) : sLj wd n f (j + 1) = if pL ((sol n f wd 144).getD j 0) = sLj wd n f j then sLj wd n f j else -1 := sure_take _ _ _ j hj
theorem sLj_all (wd : Int) (n : Nat) (f : Nat → Int) (j : Nat) (hj : (sol n f wd 144).length ≤ j) : sLj wd n f j = sure (pL ((sol n f wd 144).getD 0 0)) ((sol n f wd 144).map pL) := sure_all _ _ _ j hj
def sRj (wd : Int) (n : Nat) (f : Nat → Int) (j : Nat) : Int := sure (pR ((sol n f wd 144).getD 0 0)) (((sol n f wd 144).take j).map pR)
theorem sRj_zero (wd : Int) (n : Nat) (f : Nat → Int) : sRj wd n f 0 = pR ((sol n f wd 144).getD 0 0) := sure_zero _ _ _
theorem sRj_succ (wd : Int) (n : Nat) (f : Nat → Int) (j : Nat) (hj : j < (sol n f wd 144).length) : sRj wd n f (j + 1) = if pR ((sol n f wd 144).getD j 0) = sRj wd n f j then sRj wd n f j else -1 := sure_take _ _ _ j hj
theorem sRj_all (wd : Int) (n : Nat) (f : Nat → Int) (j : Nat) (hj : (sol n f wd 144).length ≤ j) : sRj wd n f j = sure (pR ((sol n f wd 144).getD 0 0)) ((sol n f wd 144).map pR) := sure_all _ _ _ j hj
end Go.Proofs.Ytahcfjpplkemdaa

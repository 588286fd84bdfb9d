/- Contracts of the functions of chapter 5: heights for touches, orders at corners, spots that are moved. -/
import Derived.Test.YtppgcaennhghoaaDoorLW1
import Derived.Deep.QuietTactic
namespace Go.Proofs.YtppgcaennhghoaaDoor
open Go.RowKit
set_option linter.unusedVariables false
set_option linter.unusedSimpArgs false
def inX (a b x p : Int) : Bool := okSp a b && (within x (-1000) 1000 && within p (-1000) 1000)
def btw (a x p : Int) : Bool := decide (min a x < p) && decide (p < max a x)
def okHT (a b x p : Int) : Bool := inX a b x p && btw a x p
def HT (f : Int → Int → Int) (a b x p : Int) : Int := if okHT a b x p then f (b * max (p - x) (x - p)) (max (a - p) (p - a)) else 0
theorem btw_iff (a x p : Int) : btw a x p = decide (0 < (p - a) * (x - p)) := by
  unfold btw
  rw [Bool.eq_iff_iff]
  simp only [Bool.and_eq_true, decide_eq_true_eq]
  constructor
  · rintro ⟨h1, h2⟩
    rcases Int.le_total a x with h | h
    · exact Int.mul_pos (by omega) (by omega)
    · have := Int.mul_pos (a := -(p - a)) (b := -(x - p)) (by omega) (by omega)
      rwa [Int.neg_mul_neg] at this
  · intro h
    by_cases h1 : a < p
    · have h2 : 0 < x - p := by
        by_cases c : 0 < x - p
        · exact c
        · have := Int.mul_nonneg (a := p - a) (b := -(x - p)) (by omega) (by omega)
          rw [Int.mul_neg] at this
          omega
      omega
    · have h2 : x - p < 0 := by
        by_cases c : x - p < 0
        · exact c
        · have := Int.mul_nonneg (a := -(p - a)) (b := x - p) (by omega) (by omega)
          rw [Int.neg_mul] at this
          omega
      by_cases c : p = a
      · subst c; rw [Int.sub_self, Int.zero_mul] at h; omega
      · omega
end Go.Proofs.YtppgcaennhghoaaDoor

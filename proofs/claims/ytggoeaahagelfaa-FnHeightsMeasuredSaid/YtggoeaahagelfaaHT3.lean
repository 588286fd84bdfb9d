/- Chapter 8: islands. -/
import Derived.Test.YtggoeaahagelfaaHT2
import Derived.Deep.Cut
import Derived.Deep.CutRange
import Derived.Deep.DeepCutAuto
namespace Go.Proofs.Ytggoeaahagelfaa
open Go.RowKit
set_option linter.unusedVariables false
set_option linter.unusedSimpArgs false
def okIs (s a f g : Int) : Bool := okSt s && (allS [a, f, g] && decide (f < g))
theorem okIs_true {s a f g : Int} (h : okIs s a f g = true) : (1 ≤ s ∧ s ≤ 100) ∧ (1 ≤ a ∧ a ≤ 2000) ∧ (1 ≤ f ∧ f ≤ 2000) ∧ (1 ≤ g ∧ g ≤ 2000) ∧ f < g := by
  simp only [okIs, Bool.and_eq_true, decide_eq_true_eq] at h
  obtain ⟨h1, h2, h3⟩ := h
  obtain ⟨p, q, r⟩ := allS3_true h2
  exact ⟨okSt_true h1, p, q, r, h3⟩
def tH (f : Int → Int → Int) (s a d : Int) : Int := f (s * a) d
theorem last4 {a b c D : Prop} (k : a ∧ b ∧ c ∧ D) : D := k.2.2.2
theorem last3' {a b D : Prop} (k : a ∧ b ∧ D) : D := k.2.2
end Go.Proofs.Ytggoeaahagelfaa

/- WaysWithin: by the program and by the model alike. -/
import Derived.Test.YtbnkigponkelpaaLW5
import Derived.LoopN
namespace Go.Proofs.Ytbnkigponkelpaa
open Go.RowKit
set_option linter.unusedVariables false
set_option linter.unusedSimpArgs false
theorem frozen_after {u v : World} (hb : Below u.heap.size u v) {n o : Nat} {x : Bool} (hn : n < u.heap.size) (hu : u.frozen? ⟨n, o, none⟩ = x) : v.frozen? ⟨n, o, none⟩ = x := by
  rw [(bcell hb).2 _ _ hn]; exact hu
def one (p : Prop) [Decidable p] : Int := if p then 1 else 0
/-- how many ways with at most k touches are at most so long -/
def wwc (a b c d h L : Int) : Nat → Int
  | 0 => 0
  | k + 1 => wwc a b c d h L k + one (SC a b c d h (k + 1) true ≤ L * L) + one (SC a b c d h (k + 1) false ≤ L * L)
theorem wwc_bd (a b c d h L : Int) (k : Nat) : 0 ≤ wwc a b c d h L k ∧ wwc a b c d h L k ≤ 2 * k := by
  induction k with
  | zero => simp [wwc]
  | succ k ih =>
    have h1 : ∀ (p : Prop) [Decidable p], 0 ≤ one p ∧ one p ≤ 1 := fun p _ => by unfold one; split <;> omega
    have := h1 (SC a b c d h (k + 1) true ≤ L * L)
    have := h1 (SC a b c d h (k + 1) false ≤ L * L)
    unfold wwc
    omega
theorem inCo_okCo {a b c d h : Int} {k : Int} (e : inCo a b c d h = true) (k0 : 1 ≤ k) (k1 : k ≤ 50) : okCo a b c d h k = true := by
  unfold okCo within
  rw [e, decide_eq_true k0, decide_eq_true k1]
  rfl
def okWW (a b c d h L : Int) : Bool := inCo a b c d h && within L 0 100000
end Go.Proofs.Ytbnkigponkelpaa

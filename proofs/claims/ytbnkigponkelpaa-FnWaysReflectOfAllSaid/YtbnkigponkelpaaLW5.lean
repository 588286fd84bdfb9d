/- RiseInCorridor, SquareInCorridor, BestInCorridor: by the program and by the model alike. -/
import Derived.Test.YtbnkigponkelpaaLW4
namespace Go.Proofs.Ytbnkigponkelpaa
open Go.RowKit
set_option linter.unusedVariables false
set_option linter.unusedSimpArgs false
def SC (a b c d h t : Int) (g : Bool) : Int := sq (a - c) (rsA b d h t g)
theorem SC_bd {a b c d h t : Int} (e : okCo a b c d h t = true) (g : Bool) : 0 ≤ SC a b c d h t g ∧ SC a b c d h t g ≤ 4000000000 := by
  obtain ⟨⟨⟨⟨a1, a2⟩, b1, b2⟩, ⟨⟨c1, c2⟩, d1, d2⟩, ⟨h1, h2⟩, h3, h4⟩, t1, t2⟩ := okCo_true e
  obtain ⟨f1, f2⟩ := rsA_bd b1 h3 h2 d1 h4 t1 t2 g
  have q1 := sq_bd (a := a - c) (m := 2000) (by omega) (by omega)
  have q2 := sq_bd (a := rsA b d h t g) (m := 52000) (by omega) (by omega)
  unfold SC sq
  omega
end Go.Proofs.Ytbnkigponkelpaa

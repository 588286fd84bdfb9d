/-
  No cell of these rows narrows 'for every input' (looked for: loops, veiled, ifaces, maps, wideKeys, modest, calm, conditions, laid).
  DERIVED. THE GIVEN ROWS OF THIS SEAT. 5 by the template 'for every input the law returns true; each argument reads behind the call as it read before'; 0 by the template 'total and deterministic' (their statements: YtophkahaefbkiaaTotals.lean).
  GIVEN WITH THE SEED: the statements are not yours to turn. If you find one false, say at which input.
  Laid BY PROGRAM, IN A SANDBOX (cutbox-rows.mjs): the forced cells as the released guide's own fill.sh prints them over the translation d99ae6f828183e6c… (all of the seat's roots in one cut). By AI agents, Wed Nov 11 2026. No macro, syntax, notation, axiom, sorry.
-/
import Derived.Test.YtophkahaefbkiaaChecked
import GoSem.Claim
import GoSem.ClaimJoined
import GoSem.ClaimMapViews
import Derived.JoinedTies
import Derived.KernelRfl
namespace Go.Proofs.Ytophkahaefbkiaa
/- THE CELL 'sum', in the pinned program and in every row, IS THE sha256 OF THE DUMP (.gsa) THAT YtophkahaefbkiaaProg.lean LOADS. Nothing in Lean hashes anything: it is a label: what it is worth is what the hold of that sum in a sandbox is worth. -/
noncomputable def Try.pinned : Pinned := { name := "ytophkahaefbkiaa", sum := "d99ae6f828183e6cfc4b10916b474feccc5998cacccbbebf4ba67a212f0d7820", checked := Try.checked }
namespace Rows
def none {H : Type} : Left H := { results := [], args := [] }

/-- 'laws.FnExactWholeCrossings': WHATEVER THE INPUT: true; the input reads as it did. -/
def fnExactWholeCrossingsSpec : ChangeSpec := { name := "fnExactWholeCrossings", fn := fun _ => fun
  | [d] => { results := [.lit (.bool true)], args := [d] }
  | _ => none }
def fnExactWholeCrossingsRow : OpenClaim := { program := "ytophkahaefbkiaa", sum := "d99ae6f828183e6cfc4b10916b474feccc5998cacccbbebf4ba67a212f0d7820", func := "loop.example/g01351/laws.FnExactWholeCrossings", spec := "fnExactWholeCrossings", plainKeys := false, apart := false }
def FnExactWholeCrossingsSaid : Prop := fnExactWholeCrossingsRow.holds Try.pinned (OpenSpec.ofChange fnExactWholeCrossingsSpec)

/-- ITS FALSE NEIGHBOUR: 'it returns false'. Refute it at one input. -/
def fnExactWholeCrossingsWrong : ChangeSpec := { name := "fnExactWholeCrossings", fn := fun _ => fun
  | [d] => { results := [.lit (.bool false)], args := [d] }
  | _ => none }
def FnExactWholeCrossingsWrongFalsely : Prop := fnExactWholeCrossingsRow.holds Try.pinned (OpenSpec.ofChange fnExactWholeCrossingsWrong)

/-- 'laws.FnExactLowestWhole': WHATEVER THE INPUT: true; the input reads as it did. -/
def fnExactLowestWholeSpec : ChangeSpec := { name := "fnExactLowestWhole", fn := fun _ => fun
  | [d] => { results := [.lit (.bool true)], args := [d] }
  | _ => none }
def fnExactLowestWholeRow : OpenClaim := { program := "ytophkahaefbkiaa", sum := "d99ae6f828183e6cfc4b10916b474feccc5998cacccbbebf4ba67a212f0d7820", func := "loop.example/g01351/laws.FnExactLowestWhole", spec := "fnExactLowestWhole", plainKeys := false, apart := false }
def FnExactLowestWholeSaid : Prop := fnExactLowestWholeRow.holds Try.pinned (OpenSpec.ofChange fnExactLowestWholeSpec)

/-- ITS FALSE NEIGHBOUR: 'it returns false'. Refute it at one input. -/
def fnExactLowestWholeWrong : ChangeSpec := { name := "fnExactLowestWhole", fn := fun _ => fun
  | [d] => { results := [.lit (.bool false)], args := [d] }
  | _ => none }
def FnExactLowestWholeWrongFalsely : Prop := fnExactLowestWholeRow.holds Try.pinned (OpenSpec.ofChange fnExactLowestWholeWrong)

/-- 'laws.FnExactDarkPlaces': WHATEVER THE INPUT: true; the input reads as it did. -/
def fnExactDarkPlacesSpec : ChangeSpec := { name := "fnExactDarkPlaces", fn := fun _ => fun
  | [d1, d2, d3] => { results := [.lit (.bool true)], args := [d1, d2, d3] }
  | _ => none }
def fnExactDarkPlacesRow : OpenClaim := { program := "ytophkahaefbkiaa", sum := "d99ae6f828183e6cfc4b10916b474feccc5998cacccbbebf4ba67a212f0d7820", func := "loop.example/g01351/laws.FnExactDarkPlaces", spec := "fnExactDarkPlaces", plainKeys := false, apart := false }
def FnExactDarkPlacesSaid : Prop := fnExactDarkPlacesRow.holds Try.pinned (OpenSpec.ofChange fnExactDarkPlacesSpec)

/-- ITS FALSE NEIGHBOUR: 'it returns false'. Refute it at one input. -/
def fnExactDarkPlacesWrong : ChangeSpec := { name := "fnExactDarkPlaces", fn := fun _ => fun
  | [d1, d2, d3] => { results := [.lit (.bool false)], args := [d1, d2, d3] }
  | _ => none }
def FnExactDarkPlacesWrongFalsely : Prop := fnExactDarkPlacesRow.holds Try.pinned (OpenSpec.ofChange fnExactDarkPlacesWrong)

/-- 'laws.FnExactFarthestDark': WHATEVER THE INPUT: true; the input reads as it did. -/
def fnExactFarthestDarkSpec : ChangeSpec := { name := "fnExactFarthestDark", fn := fun _ => fun
  | [d1, d2] => { results := [.lit (.bool true)], args := [d1, d2] }
  | _ => none }
def fnExactFarthestDarkRow : OpenClaim := { program := "ytophkahaefbkiaa", sum := "d99ae6f828183e6cfc4b10916b474feccc5998cacccbbebf4ba67a212f0d7820", func := "loop.example/g01351/laws.FnExactFarthestDark", spec := "fnExactFarthestDark", plainKeys := false, apart := false }
def FnExactFarthestDarkSaid : Prop := fnExactFarthestDarkRow.holds Try.pinned (OpenSpec.ofChange fnExactFarthestDarkSpec)

/-- ITS FALSE NEIGHBOUR: 'it returns false'. Refute it at one input. -/
def fnExactFarthestDarkWrong : ChangeSpec := { name := "fnExactFarthestDark", fn := fun _ => fun
  | [d1, d2] => { results := [.lit (.bool false)], args := [d1, d2] }
  | _ => none }
def FnExactFarthestDarkWrongFalsely : Prop := fnExactFarthestDarkRow.holds Try.pinned (OpenSpec.ofChange fnExactFarthestDarkWrong)

/-- 'laws.FnExactAnglesFor': WHATEVER THE INPUT: true; the input reads as it did. -/
def fnExactAnglesForSpec : ChangeSpec := { name := "fnExactAnglesFor", fn := fun _ => fun
  | [d] => { results := [.lit (.bool true)], args := [d] }
  | _ => none }
def fnExactAnglesForRow : OpenClaim := { program := "ytophkahaefbkiaa", sum := "d99ae6f828183e6cfc4b10916b474feccc5998cacccbbebf4ba67a212f0d7820", func := "loop.example/g01351/laws.FnExactAnglesFor", spec := "fnExactAnglesFor", plainKeys := false, apart := false }
def FnExactAnglesForSaid : Prop := fnExactAnglesForRow.holds Try.pinned (OpenSpec.ofChange fnExactAnglesForSpec)

/-- ITS FALSE NEIGHBOUR: 'it returns false'. Refute it at one input. -/
def fnExactAnglesForWrong : ChangeSpec := { name := "fnExactAnglesFor", fn := fun _ => fun
  | [d] => { results := [.lit (.bool false)], args := [d] }
  | _ => none }
def FnExactAnglesForWrongFalsely : Prop := fnExactAnglesForRow.holds Try.pinned (OpenSpec.ofChange fnExactAnglesForWrong)

/- THE SECOND FORM. 'bulk': how many values and letters a reading holds, each counted each time it is reached (what is shared counts as often as it is met; a slice's spare places count too). A statement '..UptoSaid' is the law's where the arguments, and the package variables that the reading takes, are together of bulk at most 1048576: NARROWER than '..Said'. Prove '..Said' where nothing that the law and all that it calls make is longer than what came in: it says more and counts as full. Else prove '..UptoSaid'. A law counts once. -/
mutual
def uptoBulk {H : Type} : DataW H → Nat
  | .lit (.string bytes) => bytes.length + 1
  | .lit _ => 1
  | .nil => 1
  | .ptr d => uptoBulk d + 1
  | .slice elems spare => uptoBulkAll elems + uptoBulkAll spare + 1
  | .agg parts => uptoBulkAll parts + 1
  | .iface _ d => uptoBulk d + 1
  | .map entries => uptoBulkEntries entries + 1
  | .held _ => 1
def uptoBulkAll {H : Type} : List (DataW H) → Nat
  | [] => 0
  | d :: r => uptoBulk d + uptoBulkAll r
def uptoBulkEntries {H : Type} : List (Lit × DataW H) → Nat
  | [] => 0
  | x :: r => uptoBulkEntry x + uptoBulkEntries r
def uptoBulkEntry {H : Type} : Lit × DataW H → Nat
  | (.string bytes, d) => bytes.length + uptoBulk d + 1
  | (_, d) => uptoBulk d + 1
 end
def uptoSmall : (H : Type) → List (DataW H) → Bool := fun _ ds => decide (uptoBulkAll ds ≤ 1048576)
def OpenSpec.upto (s : _root_.Go.ChangeSpec) : _root_.Go.OpenSpec := { _root_.Go.OpenSpec.ofChange s with cond := some uptoSmall }

/-- 'laws.FnExactWholeCrossings', WHERE WHAT IT READS IS OF BULK AT MOST 1048576: true; the input reads as it did. -/
def fnExactWholeCrossingsUptoRow : OpenClaim := { program := "ytophkahaefbkiaa", sum := "d99ae6f828183e6cfc4b10916b474feccc5998cacccbbebf4ba67a212f0d7820", func := "loop.example/g01351/laws.FnExactWholeCrossings", spec := "fnExactWholeCrossings", plainKeys := false, apart := false, narrowed := true }
def FnExactWholeCrossingsUptoSaid : Prop := fnExactWholeCrossingsUptoRow.holds Try.pinned (OpenSpec.upto fnExactWholeCrossingsSpec)

/-- 'laws.FnExactLowestWhole', WHERE WHAT IT READS IS OF BULK AT MOST 1048576: true; the input reads as it did. -/
def fnExactLowestWholeUptoRow : OpenClaim := { program := "ytophkahaefbkiaa", sum := "d99ae6f828183e6cfc4b10916b474feccc5998cacccbbebf4ba67a212f0d7820", func := "loop.example/g01351/laws.FnExactLowestWhole", spec := "fnExactLowestWhole", plainKeys := false, apart := false, narrowed := true }
def FnExactLowestWholeUptoSaid : Prop := fnExactLowestWholeUptoRow.holds Try.pinned (OpenSpec.upto fnExactLowestWholeSpec)

/-- 'laws.FnExactDarkPlaces', WHERE WHAT IT READS IS OF BULK AT MOST 1048576: true; the input reads as it did. -/
def fnExactDarkPlacesUptoRow : OpenClaim := { program := "ytophkahaefbkiaa", sum := "d99ae6f828183e6cfc4b10916b474feccc5998cacccbbebf4ba67a212f0d7820", func := "loop.example/g01351/laws.FnExactDarkPlaces", spec := "fnExactDarkPlaces", plainKeys := false, apart := false, narrowed := true }
def FnExactDarkPlacesUptoSaid : Prop := fnExactDarkPlacesUptoRow.holds Try.pinned (OpenSpec.upto fnExactDarkPlacesSpec)

/-- 'laws.FnExactFarthestDark', WHERE WHAT IT READS IS OF BULK AT MOST 1048576: true; the input reads as it did. -/
def fnExactFarthestDarkUptoRow : OpenClaim := { program := "ytophkahaefbkiaa", sum := "d99ae6f828183e6cfc4b10916b474feccc5998cacccbbebf4ba67a212f0d7820", func := "loop.example/g01351/laws.FnExactFarthestDark", spec := "fnExactFarthestDark", plainKeys := false, apart := false, narrowed := true }
def FnExactFarthestDarkUptoSaid : Prop := fnExactFarthestDarkUptoRow.holds Try.pinned (OpenSpec.upto fnExactFarthestDarkSpec)

/-- 'laws.FnExactAnglesFor', WHERE WHAT IT READS IS OF BULK AT MOST 1048576: true; the input reads as it did. -/
def fnExactAnglesForUptoRow : OpenClaim := { program := "ytophkahaefbkiaa", sum := "d99ae6f828183e6cfc4b10916b474feccc5998cacccbbebf4ba67a212f0d7820", func := "loop.example/g01351/laws.FnExactAnglesFor", spec := "fnExactAnglesFor", plainKeys := false, apart := false, narrowed := true }
def FnExactAnglesForUptoSaid : Prop := fnExactAnglesForUptoRow.holds Try.pinned (OpenSpec.upto fnExactAnglesForSpec)

end Rows
end Go.Proofs.Ytophkahaefbkiaa

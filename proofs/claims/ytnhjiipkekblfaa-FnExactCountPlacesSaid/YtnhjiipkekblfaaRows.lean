/-
  No cell of these rows narrows 'for every input' (looked for: loops, veiled, ifaces, maps, wideKeys, modest, calm, conditions, laid).
  DERIVED. THE GIVEN ROWS OF THIS SEAT. 18 by the template 'for every input the law returns true; each argument reads behind the call as it read before'; 0 by the template 'total and deterministic' (their statements: YtnhjiipkekblfaaTotals.lean).
  GIVEN WITH THE SEED: the statements are not yours to turn. If you find one false, say at which input.
  Laid BY PROGRAM, IN A SANDBOX (cutbox-rows.mjs): the forced cells as the released guide's own fill.sh prints them over the translation 217bbf72f19a8691… (all of the seat's roots in one cut). By AI agents, Wed Nov 11 2026. No macro, syntax, notation, axiom, sorry.
-/
import Derived.Test.YtnhjiipkekblfaaChecked
import GoSem.Claim
import GoSem.ClaimJoined
import GoSem.ClaimMapViews
import Derived.JoinedTies
import Derived.KernelRfl
namespace Go.Proofs.Ytnhjiipkekblfaa
/- THE CELL 'sum', in the pinned program and in every row, IS THE sha256 OF THE DUMP (.gsa) THAT YtnhjiipkekblfaaProg.lean LOADS. Nothing in Lean hashes anything: it is a label: what it is worth is what the hold of that sum in a sandbox is worth. -/
noncomputable def Try.pinned : Pinned := { name := "ytnhjiipkekblfaa", sum := "217bbf72f19a8691958faaa06d3cad67f5803efa2b48264606d37de02af4cbcd", checked := Try.checked }
namespace Rows
def none {H : Type} : Left H := { results := [], args := [] }

/-- 'laws.FnExactIsTable': WHATEVER THE INPUT: true; the input reads as it did. -/
def fnExactIsTableSpec : ChangeSpec := { name := "fnExactIsTable", fn := fun _ => fun
  | [d] => { results := [.lit (.bool true)], args := [d] }
  | _ => none }
def fnExactIsTableRow : OpenClaim := { program := "ytnhjiipkekblfaa", sum := "217bbf72f19a8691958faaa06d3cad67f5803efa2b48264606d37de02af4cbcd", func := "loop.example/g01351/laws.FnExactIsTable", spec := "fnExactIsTable", plainKeys := false, apart := false }
def FnExactIsTableSaid : Prop := fnExactIsTableRow.holds Try.pinned (OpenSpec.ofChange fnExactIsTableSpec)

/-- ITS FALSE NEIGHBOUR: 'it returns false'. Refute it at one input. -/
def fnExactIsTableWrong : ChangeSpec := { name := "fnExactIsTable", fn := fun _ => fun
  | [d] => { results := [.lit (.bool false)], args := [d] }
  | _ => none }
def FnExactIsTableWrongFalsely : Prop := fnExactIsTableRow.holds Try.pinned (OpenSpec.ofChange fnExactIsTableWrong)

/-- 'laws.FnExactIsBeam': WHATEVER THE INPUT: true; the input reads as it did. -/
def fnExactIsBeamSpec : ChangeSpec := { name := "fnExactIsBeam", fn := fun _ => fun
  | [d1, d2] => { results := [.lit (.bool true)], args := [d1, d2] }
  | _ => none }
def fnExactIsBeamRow : OpenClaim := { program := "ytnhjiipkekblfaa", sum := "217bbf72f19a8691958faaa06d3cad67f5803efa2b48264606d37de02af4cbcd", func := "loop.example/g01351/laws.FnExactIsBeam", spec := "fnExactIsBeam", plainKeys := false, apart := false }
def FnExactIsBeamSaid : Prop := fnExactIsBeamRow.holds Try.pinned (OpenSpec.ofChange fnExactIsBeamSpec)

/-- ITS FALSE NEIGHBOUR: 'it returns false'. Refute it at one input. -/
def fnExactIsBeamWrong : ChangeSpec := { name := "fnExactIsBeam", fn := fun _ => fun
  | [d1, d2] => { results := [.lit (.bool false)], args := [d1, d2] }
  | _ => none }
def FnExactIsBeamWrongFalsely : Prop := fnExactIsBeamRow.holds Try.pinned (OpenSpec.ofChange fnExactIsBeamWrong)

/-- 'laws.FnExactBeamAfter': WHATEVER THE INPUT: true; the input reads as it did. -/
def fnExactBeamAfterSpec : ChangeSpec := { name := "fnExactBeamAfter", fn := fun _ => fun
  | [d1, d2, d3] => { results := [.lit (.bool true)], args := [d1, d2, d3] }
  | _ => none }
def fnExactBeamAfterRow : OpenClaim := { program := "ytnhjiipkekblfaa", sum := "217bbf72f19a8691958faaa06d3cad67f5803efa2b48264606d37de02af4cbcd", func := "loop.example/g01351/laws.FnExactBeamAfter", spec := "fnExactBeamAfter", plainKeys := false, apart := false }
def FnExactBeamAfterSaid : Prop := fnExactBeamAfterRow.holds Try.pinned (OpenSpec.ofChange fnExactBeamAfterSpec)

/-- ITS FALSE NEIGHBOUR: 'it returns false'. Refute it at one input. -/
def fnExactBeamAfterWrong : ChangeSpec := { name := "fnExactBeamAfter", fn := fun _ => fun
  | [d1, d2, d3] => { results := [.lit (.bool false)], args := [d1, d2, d3] }
  | _ => none }
def FnExactBeamAfterWrongFalsely : Prop := fnExactBeamAfterRow.holds Try.pinned (OpenSpec.ofChange fnExactBeamAfterWrong)

/-- 'laws.FnExactPlacesOfBeam': WHATEVER THE INPUT: true; the input reads as it did. -/
def fnExactPlacesOfBeamSpec : ChangeSpec := { name := "fnExactPlacesOfBeam", fn := fun _ => fun
  | [d1, d2, d3] => { results := [.lit (.bool true)], args := [d1, d2, d3] }
  | _ => none }
def fnExactPlacesOfBeamRow : OpenClaim := { program := "ytnhjiipkekblfaa", sum := "217bbf72f19a8691958faaa06d3cad67f5803efa2b48264606d37de02af4cbcd", func := "loop.example/g01351/laws.FnExactPlacesOfBeam", spec := "fnExactPlacesOfBeam", plainKeys := false, apart := false }
def FnExactPlacesOfBeamSaid : Prop := fnExactPlacesOfBeamRow.holds Try.pinned (OpenSpec.ofChange fnExactPlacesOfBeamSpec)

/-- ITS FALSE NEIGHBOUR: 'it returns false'. Refute it at one input. -/
def fnExactPlacesOfBeamWrong : ChangeSpec := { name := "fnExactPlacesOfBeam", fn := fun _ => fun
  | [d1, d2, d3] => { results := [.lit (.bool false)], args := [d1, d2, d3] }
  | _ => none }
def FnExactPlacesOfBeamWrongFalsely : Prop := fnExactPlacesOfBeamRow.holds Try.pinned (OpenSpec.ofChange fnExactPlacesOfBeamWrong)

/-- 'laws.FnExactStepsToCorner': WHATEVER THE INPUT: true; the input reads as it did. -/
def fnExactStepsToCornerSpec : ChangeSpec := { name := "fnExactStepsToCorner", fn := fun _ => fun
  | [d1, d2] => { results := [.lit (.bool true)], args := [d1, d2] }
  | _ => none }
def fnExactStepsToCornerRow : OpenClaim := { program := "ytnhjiipkekblfaa", sum := "217bbf72f19a8691958faaa06d3cad67f5803efa2b48264606d37de02af4cbcd", func := "loop.example/g01351/laws.FnExactStepsToCorner", spec := "fnExactStepsToCorner", plainKeys := false, apart := false }
def FnExactStepsToCornerSaid : Prop := fnExactStepsToCornerRow.holds Try.pinned (OpenSpec.ofChange fnExactStepsToCornerSpec)

/-- ITS FALSE NEIGHBOUR: 'it returns false'. Refute it at one input. -/
def fnExactStepsToCornerWrong : ChangeSpec := { name := "fnExactStepsToCorner", fn := fun _ => fun
  | [d1, d2] => { results := [.lit (.bool false)], args := [d1, d2] }
  | _ => none }
def FnExactStepsToCornerWrongFalsely : Prop := fnExactStepsToCornerRow.holds Try.pinned (OpenSpec.ofChange fnExactStepsToCornerWrong)

/-- 'laws.FnExactCornerOf': WHATEVER THE INPUT: true; the input reads as it did. -/
def fnExactCornerOfSpec : ChangeSpec := { name := "fnExactCornerOf", fn := fun _ => fun
  | [d1, d2] => { results := [.lit (.bool true)], args := [d1, d2] }
  | _ => none }
def fnExactCornerOfRow : OpenClaim := { program := "ytnhjiipkekblfaa", sum := "217bbf72f19a8691958faaa06d3cad67f5803efa2b48264606d37de02af4cbcd", func := "loop.example/g01351/laws.FnExactCornerOf", spec := "fnExactCornerOf", plainKeys := false, apart := false }
def FnExactCornerOfSaid : Prop := fnExactCornerOfRow.holds Try.pinned (OpenSpec.ofChange fnExactCornerOfSpec)

/-- ITS FALSE NEIGHBOUR: 'it returns false'. Refute it at one input. -/
def fnExactCornerOfWrong : ChangeSpec := { name := "fnExactCornerOf", fn := fun _ => fun
  | [d1, d2] => { results := [.lit (.bool false)], args := [d1, d2] }
  | _ => none }
def FnExactCornerOfWrongFalsely : Prop := fnExactCornerOfRow.holds Try.pinned (OpenSpec.ofChange fnExactCornerOfWrong)

/-- 'laws.FnExactBouncesToCorner': WHATEVER THE INPUT: true; the input reads as it did. -/
def fnExactBouncesToCornerSpec : ChangeSpec := { name := "fnExactBouncesToCorner", fn := fun _ => fun
  | [d1, d2] => { results := [.lit (.bool true)], args := [d1, d2] }
  | _ => none }
def fnExactBouncesToCornerRow : OpenClaim := { program := "ytnhjiipkekblfaa", sum := "217bbf72f19a8691958faaa06d3cad67f5803efa2b48264606d37de02af4cbcd", func := "loop.example/g01351/laws.FnExactBouncesToCorner", spec := "fnExactBouncesToCorner", plainKeys := false, apart := false }
def FnExactBouncesToCornerSaid : Prop := fnExactBouncesToCornerRow.holds Try.pinned (OpenSpec.ofChange fnExactBouncesToCornerSpec)

/-- ITS FALSE NEIGHBOUR: 'it returns false'. Refute it at one input. -/
def fnExactBouncesToCornerWrong : ChangeSpec := { name := "fnExactBouncesToCorner", fn := fun _ => fun
  | [d1, d2] => { results := [.lit (.bool false)], args := [d1, d2] }
  | _ => none }
def FnExactBouncesToCornerWrongFalsely : Prop := fnExactBouncesToCornerRow.holds Try.pinned (OpenSpec.ofChange fnExactBouncesToCornerWrong)

/-- 'laws.FnExactBouncesWithin': WHATEVER THE INPUT: true; the input reads as it did. -/
def fnExactBouncesWithinSpec : ChangeSpec := { name := "fnExactBouncesWithin", fn := fun _ => fun
  | [d1, d2, d3] => { results := [.lit (.bool true)], args := [d1, d2, d3] }
  | _ => none }
def fnExactBouncesWithinRow : OpenClaim := { program := "ytnhjiipkekblfaa", sum := "217bbf72f19a8691958faaa06d3cad67f5803efa2b48264606d37de02af4cbcd", func := "loop.example/g01351/laws.FnExactBouncesWithin", spec := "fnExactBouncesWithin", plainKeys := false, apart := false }
def FnExactBouncesWithinSaid : Prop := fnExactBouncesWithinRow.holds Try.pinned (OpenSpec.ofChange fnExactBouncesWithinSpec)

/-- ITS FALSE NEIGHBOUR: 'it returns false'. Refute it at one input. -/
def fnExactBouncesWithinWrong : ChangeSpec := { name := "fnExactBouncesWithin", fn := fun _ => fun
  | [d1, d2, d3] => { results := [.lit (.bool false)], args := [d1, d2, d3] }
  | _ => none }
def FnExactBouncesWithinWrongFalsely : Prop := fnExactBouncesWithinRow.holds Try.pinned (OpenSpec.ofChange fnExactBouncesWithinWrong)

/-- 'laws.FnExactPeriodOfBeam': WHATEVER THE INPUT: true; the input reads as it did. -/
def fnExactPeriodOfBeamSpec : ChangeSpec := { name := "fnExactPeriodOfBeam", fn := fun _ => fun
  | [d1, d2] => { results := [.lit (.bool true)], args := [d1, d2] }
  | _ => none }
def fnExactPeriodOfBeamRow : OpenClaim := { program := "ytnhjiipkekblfaa", sum := "217bbf72f19a8691958faaa06d3cad67f5803efa2b48264606d37de02af4cbcd", func := "loop.example/g01351/laws.FnExactPeriodOfBeam", spec := "fnExactPeriodOfBeam", plainKeys := false, apart := false }
def FnExactPeriodOfBeamSaid : Prop := fnExactPeriodOfBeamRow.holds Try.pinned (OpenSpec.ofChange fnExactPeriodOfBeamSpec)

/-- ITS FALSE NEIGHBOUR: 'it returns false'. Refute it at one input. -/
def fnExactPeriodOfBeamWrong : ChangeSpec := { name := "fnExactPeriodOfBeam", fn := fun _ => fun
  | [d1, d2] => { results := [.lit (.bool false)], args := [d1, d2] }
  | _ => none }
def FnExactPeriodOfBeamWrongFalsely : Prop := fnExactPeriodOfBeamRow.holds Try.pinned (OpenSpec.ofChange fnExactPeriodOfBeamWrong)

/-- 'laws.FnExactFirstPass': WHATEVER THE INPUT: true; the input reads as it did. -/
def fnExactFirstPassSpec : ChangeSpec := { name := "fnExactFirstPass", fn := fun _ => fun
  | [d1, d2, d3, d4] => { results := [.lit (.bool true)], args := [d1, d2, d3, d4] }
  | _ => none }
def fnExactFirstPassRow : OpenClaim := { program := "ytnhjiipkekblfaa", sum := "217bbf72f19a8691958faaa06d3cad67f5803efa2b48264606d37de02af4cbcd", func := "loop.example/g01351/laws.FnExactFirstPass", spec := "fnExactFirstPass", plainKeys := false, apart := false }
def FnExactFirstPassSaid : Prop := fnExactFirstPassRow.holds Try.pinned (OpenSpec.ofChange fnExactFirstPassSpec)

/-- ITS FALSE NEIGHBOUR: 'it returns false'. Refute it at one input. -/
def fnExactFirstPassWrong : ChangeSpec := { name := "fnExactFirstPass", fn := fun _ => fun
  | [d1, d2, d3, d4] => { results := [.lit (.bool false)], args := [d1, d2, d3, d4] }
  | _ => none }
def FnExactFirstPassWrongFalsely : Prop := fnExactFirstPassRow.holds Try.pinned (OpenSpec.ofChange fnExactFirstPassWrong)

/-- 'laws.FnExactDoesPass': WHATEVER THE INPUT: true; the input reads as it did. -/
def fnExactDoesPassSpec : ChangeSpec := { name := "fnExactDoesPass", fn := fun _ => fun
  | [d1, d2, d3, d4] => { results := [.lit (.bool true)], args := [d1, d2, d3, d4] }
  | _ => none }
def fnExactDoesPassRow : OpenClaim := { program := "ytnhjiipkekblfaa", sum := "217bbf72f19a8691958faaa06d3cad67f5803efa2b48264606d37de02af4cbcd", func := "loop.example/g01351/laws.FnExactDoesPass", spec := "fnExactDoesPass", plainKeys := false, apart := false }
def FnExactDoesPassSaid : Prop := fnExactDoesPassRow.holds Try.pinned (OpenSpec.ofChange fnExactDoesPassSpec)

/-- ITS FALSE NEIGHBOUR: 'it returns false'. Refute it at one input. -/
def fnExactDoesPassWrong : ChangeSpec := { name := "fnExactDoesPass", fn := fun _ => fun
  | [d1, d2, d3, d4] => { results := [.lit (.bool false)], args := [d1, d2, d3, d4] }
  | _ => none }
def FnExactDoesPassWrongFalsely : Prop := fnExactDoesPassRow.holds Try.pinned (OpenSpec.ofChange fnExactDoesPassWrong)

/-- 'laws.FnExactCountPlaces': WHATEVER THE INPUT: true; the input reads as it did. -/
def fnExactCountPlacesSpec : ChangeSpec := { name := "fnExactCountPlaces", fn := fun _ => fun
  | [d1, d2] => { results := [.lit (.bool true)], args := [d1, d2] }
  | _ => none }
def fnExactCountPlacesRow : OpenClaim := { program := "ytnhjiipkekblfaa", sum := "217bbf72f19a8691958faaa06d3cad67f5803efa2b48264606d37de02af4cbcd", func := "loop.example/g01351/laws.FnExactCountPlaces", spec := "fnExactCountPlaces", plainKeys := false, apart := false }
def FnExactCountPlacesSaid : Prop := fnExactCountPlacesRow.holds Try.pinned (OpenSpec.ofChange fnExactCountPlacesSpec)

/-- ITS FALSE NEIGHBOUR: 'it returns false'. Refute it at one input. -/
def fnExactCountPlacesWrong : ChangeSpec := { name := "fnExactCountPlaces", fn := fun _ => fun
  | [d1, d2] => { results := [.lit (.bool false)], args := [d1, d2] }
  | _ => none }
def FnExactCountPlacesWrongFalsely : Prop := fnExactCountPlacesRow.holds Try.pinned (OpenSpec.ofChange fnExactCountPlacesWrong)

/-- 'laws.FnExactCountCrossings': WHATEVER THE INPUT: true; the input reads as it did. -/
def fnExactCountCrossingsSpec : ChangeSpec := { name := "fnExactCountCrossings", fn := fun _ => fun
  | [d1, d2] => { results := [.lit (.bool true)], args := [d1, d2] }
  | _ => none }
def fnExactCountCrossingsRow : OpenClaim := { program := "ytnhjiipkekblfaa", sum := "217bbf72f19a8691958faaa06d3cad67f5803efa2b48264606d37de02af4cbcd", func := "loop.example/g01351/laws.FnExactCountCrossings", spec := "fnExactCountCrossings", plainKeys := false, apart := false }
def FnExactCountCrossingsSaid : Prop := fnExactCountCrossingsRow.holds Try.pinned (OpenSpec.ofChange fnExactCountCrossingsSpec)

/-- ITS FALSE NEIGHBOUR: 'it returns false'. Refute it at one input. -/
def fnExactCountCrossingsWrong : ChangeSpec := { name := "fnExactCountCrossings", fn := fun _ => fun
  | [d1, d2] => { results := [.lit (.bool false)], args := [d1, d2] }
  | _ => none }
def FnExactCountCrossingsWrongFalsely : Prop := fnExactCountCrossingsRow.holds Try.pinned (OpenSpec.ofChange fnExactCountCrossingsWrong)

/-- 'laws.FnExactMainBounces': WHATEVER THE INPUT: true; the input reads as it did. -/
def fnExactMainBouncesSpec : ChangeSpec := { name := "fnExactMainBounces", fn := fun _ => fun
  | [d] => { results := [.lit (.bool true)], args := [d] }
  | _ => none }
def fnExactMainBouncesRow : OpenClaim := { program := "ytnhjiipkekblfaa", sum := "217bbf72f19a8691958faaa06d3cad67f5803efa2b48264606d37de02af4cbcd", func := "loop.example/g01351/laws.FnExactMainBounces", spec := "fnExactMainBounces", plainKeys := false, apart := false }
def FnExactMainBouncesSaid : Prop := fnExactMainBouncesRow.holds Try.pinned (OpenSpec.ofChange fnExactMainBouncesSpec)

/-- ITS FALSE NEIGHBOUR: 'it returns false'. Refute it at one input. -/
def fnExactMainBouncesWrong : ChangeSpec := { name := "fnExactMainBounces", fn := fun _ => fun
  | [d] => { results := [.lit (.bool false)], args := [d] }
  | _ => none }
def FnExactMainBouncesWrongFalsely : Prop := fnExactMainBouncesRow.holds Try.pinned (OpenSpec.ofChange fnExactMainBouncesWrong)

/-- 'laws.FnExactMainCorner': WHATEVER THE INPUT: true; the input reads as it did. -/
def fnExactMainCornerSpec : ChangeSpec := { name := "fnExactMainCorner", fn := fun _ => fun
  | [d] => { results := [.lit (.bool true)], args := [d] }
  | _ => none }
def fnExactMainCornerRow : OpenClaim := { program := "ytnhjiipkekblfaa", sum := "217bbf72f19a8691958faaa06d3cad67f5803efa2b48264606d37de02af4cbcd", func := "loop.example/g01351/laws.FnExactMainCorner", spec := "fnExactMainCorner", plainKeys := false, apart := false }
def FnExactMainCornerSaid : Prop := fnExactMainCornerRow.holds Try.pinned (OpenSpec.ofChange fnExactMainCornerSpec)

/-- ITS FALSE NEIGHBOUR: 'it returns false'. Refute it at one input. -/
def fnExactMainCornerWrong : ChangeSpec := { name := "fnExactMainCorner", fn := fun _ => fun
  | [d] => { results := [.lit (.bool false)], args := [d] }
  | _ => none }
def FnExactMainCornerWrongFalsely : Prop := fnExactMainCornerRow.holds Try.pinned (OpenSpec.ofChange fnExactMainCornerWrong)

/-- 'laws.FnExactTablesFor': WHATEVER THE INPUT: true; the input reads as it did. -/
def fnExactTablesForSpec : ChangeSpec := { name := "fnExactTablesFor", fn := fun _ => fun
  | [d] => { results := [.lit (.bool true)], args := [d] }
  | _ => none }
def fnExactTablesForRow : OpenClaim := { program := "ytnhjiipkekblfaa", sum := "217bbf72f19a8691958faaa06d3cad67f5803efa2b48264606d37de02af4cbcd", func := "loop.example/g01351/laws.FnExactTablesFor", spec := "fnExactTablesFor", plainKeys := false, apart := false }
def FnExactTablesForSaid : Prop := fnExactTablesForRow.holds Try.pinned (OpenSpec.ofChange fnExactTablesForSpec)

/-- ITS FALSE NEIGHBOUR: 'it returns false'. Refute it at one input. -/
def fnExactTablesForWrong : ChangeSpec := { name := "fnExactTablesFor", fn := fun _ => fun
  | [d] => { results := [.lit (.bool false)], args := [d] }
  | _ => none }
def FnExactTablesForWrongFalsely : Prop := fnExactTablesForRow.holds Try.pinned (OpenSpec.ofChange fnExactTablesForWrong)

/-- 'laws.FnExactBackBeam': WHATEVER THE INPUT: true; the input reads as it did. -/
def fnExactBackBeamSpec : ChangeSpec := { name := "fnExactBackBeam", fn := fun _ => fun
  | [d1, d2] => { results := [.lit (.bool true)], args := [d1, d2] }
  | _ => none }
def fnExactBackBeamRow : OpenClaim := { program := "ytnhjiipkekblfaa", sum := "217bbf72f19a8691958faaa06d3cad67f5803efa2b48264606d37de02af4cbcd", func := "loop.example/g01351/laws.FnExactBackBeam", spec := "fnExactBackBeam", plainKeys := false, apart := false }
def FnExactBackBeamSaid : Prop := fnExactBackBeamRow.holds Try.pinned (OpenSpec.ofChange fnExactBackBeamSpec)

/-- ITS FALSE NEIGHBOUR: 'it returns false'. Refute it at one input. -/
def fnExactBackBeamWrong : ChangeSpec := { name := "fnExactBackBeam", fn := fun _ => fun
  | [d1, d2] => { results := [.lit (.bool false)], args := [d1, d2] }
  | _ => none }
def FnExactBackBeamWrongFalsely : Prop := fnExactBackBeamRow.holds Try.pinned (OpenSpec.ofChange fnExactBackBeamWrong)

/-- 'laws.FnExactUnfoldedPlace': WHATEVER THE INPUT: true; the input reads as it did. -/
def fnExactUnfoldedPlaceSpec : ChangeSpec := { name := "fnExactUnfoldedPlace", fn := fun _ => fun
  | [d1, d2, d3] => { results := [.lit (.bool true)], args := [d1, d2, d3] }
  | _ => none }
def fnExactUnfoldedPlaceRow : OpenClaim := { program := "ytnhjiipkekblfaa", sum := "217bbf72f19a8691958faaa06d3cad67f5803efa2b48264606d37de02af4cbcd", func := "loop.example/g01351/laws.FnExactUnfoldedPlace", spec := "fnExactUnfoldedPlace", plainKeys := false, apart := false }
def FnExactUnfoldedPlaceSaid : Prop := fnExactUnfoldedPlaceRow.holds Try.pinned (OpenSpec.ofChange fnExactUnfoldedPlaceSpec)

/-- ITS FALSE NEIGHBOUR: 'it returns false'. Refute it at one input. -/
def fnExactUnfoldedPlaceWrong : ChangeSpec := { name := "fnExactUnfoldedPlace", fn := fun _ => fun
  | [d1, d2, d3] => { results := [.lit (.bool false)], args := [d1, d2, d3] }
  | _ => none }
def FnExactUnfoldedPlaceWrongFalsely : Prop := fnExactUnfoldedPlaceRow.holds Try.pinned (OpenSpec.ofChange fnExactUnfoldedPlaceWrong)

/- THE SECOND FORM. 'bulk': how many values and letters a reading holds, each counted each time it is reached (what is shared counts as often as it is met; a slice's spare places count too). A statement '..UptoSaid' is the law's where the arguments, and the package variables that the reading takes, are together of bulk at most 1048576: NARROWER than '..Said'. Prove '..Said' where nothing that the law and all that it calls make is longer than what came in: it says more and counts as full. Else prove '..UptoSaid'. A law counts once. -/
mutual
def uptoBulk {H : Type} : DataW H → Nat
  | .lit (.string bytes) => bytes.length + 1
  | .lit _ => 1
  | .nil => 1
  | .ptr d => uptoBulk d + 1
  | .slice elems spare => uptoBulkAll elems + uptoBulkAll spare + 1
  | .agg parts => uptoBulkAll parts + 1
  | .iface _ d => uptoBulk d + 1
  | .map entries => uptoBulkEntries entries + 1
  | .held _ => 1
def uptoBulkAll {H : Type} : List (DataW H) → Nat
  | [] => 0
  | d :: r => uptoBulk d + uptoBulkAll r
def uptoBulkEntries {H : Type} : List (Lit × DataW H) → Nat
  | [] => 0
  | x :: r => uptoBulkEntry x + uptoBulkEntries r
def uptoBulkEntry {H : Type} : Lit × DataW H → Nat
  | (.string bytes, d) => bytes.length + uptoBulk d + 1
  | (_, d) => uptoBulk d + 1
 end
def uptoSmall : (H : Type) → List (DataW H) → Bool := fun _ ds => decide (uptoBulkAll ds ≤ 1048576)
def OpenSpec.upto (s : _root_.Go.ChangeSpec) : _root_.Go.OpenSpec := { _root_.Go.OpenSpec.ofChange s with cond := some uptoSmall }

/-- 'laws.FnExactIsTable', WHERE WHAT IT READS IS OF BULK AT MOST 1048576: true; the input reads as it did. -/
def fnExactIsTableUptoRow : OpenClaim := { program := "ytnhjiipkekblfaa", sum := "217bbf72f19a8691958faaa06d3cad67f5803efa2b48264606d37de02af4cbcd", func := "loop.example/g01351/laws.FnExactIsTable", spec := "fnExactIsTable", plainKeys := false, apart := false, narrowed := true }
def FnExactIsTableUptoSaid : Prop := fnExactIsTableUptoRow.holds Try.pinned (OpenSpec.upto fnExactIsTableSpec)

/-- 'laws.FnExactIsBeam', WHERE WHAT IT READS IS OF BULK AT MOST 1048576: true; the input reads as it did. -/
def fnExactIsBeamUptoRow : OpenClaim := { program := "ytnhjiipkekblfaa", sum := "217bbf72f19a8691958faaa06d3cad67f5803efa2b48264606d37de02af4cbcd", func := "loop.example/g01351/laws.FnExactIsBeam", spec := "fnExactIsBeam", plainKeys := false, apart := false, narrowed := true }
def FnExactIsBeamUptoSaid : Prop := fnExactIsBeamUptoRow.holds Try.pinned (OpenSpec.upto fnExactIsBeamSpec)

/-- 'laws.FnExactBeamAfter', WHERE WHAT IT READS IS OF BULK AT MOST 1048576: true; the input reads as it did. -/
def fnExactBeamAfterUptoRow : OpenClaim := { program := "ytnhjiipkekblfaa", sum := "217bbf72f19a8691958faaa06d3cad67f5803efa2b48264606d37de02af4cbcd", func := "loop.example/g01351/laws.FnExactBeamAfter", spec := "fnExactBeamAfter", plainKeys := false, apart := false, narrowed := true }
def FnExactBeamAfterUptoSaid : Prop := fnExactBeamAfterUptoRow.holds Try.pinned (OpenSpec.upto fnExactBeamAfterSpec)

/-- 'laws.FnExactPlacesOfBeam', WHERE WHAT IT READS IS OF BULK AT MOST 1048576: true; the input reads as it did. -/
def fnExactPlacesOfBeamUptoRow : OpenClaim := { program := "ytnhjiipkekblfaa", sum := "217bbf72f19a8691958faaa06d3cad67f5803efa2b48264606d37de02af4cbcd", func := "loop.example/g01351/laws.FnExactPlacesOfBeam", spec := "fnExactPlacesOfBeam", plainKeys := false, apart := false, narrowed := true }
def FnExactPlacesOfBeamUptoSaid : Prop := fnExactPlacesOfBeamUptoRow.holds Try.pinned (OpenSpec.upto fnExactPlacesOfBeamSpec)

/-- 'laws.FnExactStepsToCorner', WHERE WHAT IT READS IS OF BULK AT MOST 1048576: true; the input reads as it did. -/
def fnExactStepsToCornerUptoRow : OpenClaim := { program := "ytnhjiipkekblfaa", sum := "217bbf72f19a8691958faaa06d3cad67f5803efa2b48264606d37de02af4cbcd", func := "loop.example/g01351/laws.FnExactStepsToCorner", spec := "fnExactStepsToCorner", plainKeys := false, apart := false, narrowed := true }
def FnExactStepsToCornerUptoSaid : Prop := fnExactStepsToCornerUptoRow.holds Try.pinned (OpenSpec.upto fnExactStepsToCornerSpec)

/-- 'laws.FnExactCornerOf', WHERE WHAT IT READS IS OF BULK AT MOST 1048576: true; the input reads as it did. -/
def fnExactCornerOfUptoRow : OpenClaim := { program := "ytnhjiipkekblfaa", sum := "217bbf72f19a8691958faaa06d3cad67f5803efa2b48264606d37de02af4cbcd", func := "loop.example/g01351/laws.FnExactCornerOf", spec := "fnExactCornerOf", plainKeys := false, apart := false, narrowed := true }
def FnExactCornerOfUptoSaid : Prop := fnExactCornerOfUptoRow.holds Try.pinned (OpenSpec.upto fnExactCornerOfSpec)

/-- 'laws.FnExactBouncesToCorner', WHERE WHAT IT READS IS OF BULK AT MOST 1048576: true; the input reads as it did. -/
def fnExactBouncesToCornerUptoRow : OpenClaim := { program := "ytnhjiipkekblfaa", sum := "217bbf72f19a8691958faaa06d3cad67f5803efa2b48264606d37de02af4cbcd", func := "loop.example/g01351/laws.FnExactBouncesToCorner", spec := "fnExactBouncesToCorner", plainKeys := false, apart := false, narrowed := true }
def FnExactBouncesToCornerUptoSaid : Prop := fnExactBouncesToCornerUptoRow.holds Try.pinned (OpenSpec.upto fnExactBouncesToCornerSpec)

/-- 'laws.FnExactBouncesWithin', WHERE WHAT IT READS IS OF BULK AT MOST 1048576: true; the input reads as it did. -/
def fnExactBouncesWithinUptoRow : OpenClaim := { program := "ytnhjiipkekblfaa", sum := "217bbf72f19a8691958faaa06d3cad67f5803efa2b48264606d37de02af4cbcd", func := "loop.example/g01351/laws.FnExactBouncesWithin", spec := "fnExactBouncesWithin", plainKeys := false, apart := false, narrowed := true }
def FnExactBouncesWithinUptoSaid : Prop := fnExactBouncesWithinUptoRow.holds Try.pinned (OpenSpec.upto fnExactBouncesWithinSpec)

/-- 'laws.FnExactPeriodOfBeam', WHERE WHAT IT READS IS OF BULK AT MOST 1048576: true; the input reads as it did. -/
def fnExactPeriodOfBeamUptoRow : OpenClaim := { program := "ytnhjiipkekblfaa", sum := "217bbf72f19a8691958faaa06d3cad67f5803efa2b48264606d37de02af4cbcd", func := "loop.example/g01351/laws.FnExactPeriodOfBeam", spec := "fnExactPeriodOfBeam", plainKeys := false, apart := false, narrowed := true }
def FnExactPeriodOfBeamUptoSaid : Prop := fnExactPeriodOfBeamUptoRow.holds Try.pinned (OpenSpec.upto fnExactPeriodOfBeamSpec)

/-- 'laws.FnExactFirstPass', WHERE WHAT IT READS IS OF BULK AT MOST 1048576: true; the input reads as it did. -/
def fnExactFirstPassUptoRow : OpenClaim := { program := "ytnhjiipkekblfaa", sum := "217bbf72f19a8691958faaa06d3cad67f5803efa2b48264606d37de02af4cbcd", func := "loop.example/g01351/laws.FnExactFirstPass", spec := "fnExactFirstPass", plainKeys := false, apart := false, narrowed := true }
def FnExactFirstPassUptoSaid : Prop := fnExactFirstPassUptoRow.holds Try.pinned (OpenSpec.upto fnExactFirstPassSpec)

/-- 'laws.FnExactDoesPass', WHERE WHAT IT READS IS OF BULK AT MOST 1048576: true; the input reads as it did. -/
def fnExactDoesPassUptoRow : OpenClaim := { program := "ytnhjiipkekblfaa", sum := "217bbf72f19a8691958faaa06d3cad67f5803efa2b48264606d37de02af4cbcd", func := "loop.example/g01351/laws.FnExactDoesPass", spec := "fnExactDoesPass", plainKeys := false, apart := false, narrowed := true }
def FnExactDoesPassUptoSaid : Prop := fnExactDoesPassUptoRow.holds Try.pinned (OpenSpec.upto fnExactDoesPassSpec)

/-- 'laws.FnExactCountPlaces', WHERE WHAT IT READS IS OF BULK AT MOST 1048576: true; the input reads as it did. -/
def fnExactCountPlacesUptoRow : OpenClaim := { program := "ytnhjiipkekblfaa", sum := "217bbf72f19a8691958faaa06d3cad67f5803efa2b48264606d37de02af4cbcd", func := "loop.example/g01351/laws.FnExactCountPlaces", spec := "fnExactCountPlaces", plainKeys := false, apart := false, narrowed := true }
def FnExactCountPlacesUptoSaid : Prop := fnExactCountPlacesUptoRow.holds Try.pinned (OpenSpec.upto fnExactCountPlacesSpec)

/-- 'laws.FnExactCountCrossings', WHERE WHAT IT READS IS OF BULK AT MOST 1048576: true; the input reads as it did. -/
def fnExactCountCrossingsUptoRow : OpenClaim := { program := "ytnhjiipkekblfaa", sum := "217bbf72f19a8691958faaa06d3cad67f5803efa2b48264606d37de02af4cbcd", func := "loop.example/g01351/laws.FnExactCountCrossings", spec := "fnExactCountCrossings", plainKeys := false, apart := false, narrowed := true }
def FnExactCountCrossingsUptoSaid : Prop := fnExactCountCrossingsUptoRow.holds Try.pinned (OpenSpec.upto fnExactCountCrossingsSpec)

/-- 'laws.FnExactMainBounces', WHERE WHAT IT READS IS OF BULK AT MOST 1048576: true; the input reads as it did. -/
def fnExactMainBouncesUptoRow : OpenClaim := { program := "ytnhjiipkekblfaa", sum := "217bbf72f19a8691958faaa06d3cad67f5803efa2b48264606d37de02af4cbcd", func := "loop.example/g01351/laws.FnExactMainBounces", spec := "fnExactMainBounces", plainKeys := false, apart := false, narrowed := true }
def FnExactMainBouncesUptoSaid : Prop := fnExactMainBouncesUptoRow.holds Try.pinned (OpenSpec.upto fnExactMainBouncesSpec)

/-- 'laws.FnExactMainCorner', WHERE WHAT IT READS IS OF BULK AT MOST 1048576: true; the input reads as it did. -/
def fnExactMainCornerUptoRow : OpenClaim := { program := "ytnhjiipkekblfaa", sum := "217bbf72f19a8691958faaa06d3cad67f5803efa2b48264606d37de02af4cbcd", func := "loop.example/g01351/laws.FnExactMainCorner", spec := "fnExactMainCorner", plainKeys := false, apart := false, narrowed := true }
def FnExactMainCornerUptoSaid : Prop := fnExactMainCornerUptoRow.holds Try.pinned (OpenSpec.upto fnExactMainCornerSpec)

/-- 'laws.FnExactTablesFor', WHERE WHAT IT READS IS OF BULK AT MOST 1048576: true; the input reads as it did. -/
def fnExactTablesForUptoRow : OpenClaim := { program := "ytnhjiipkekblfaa", sum := "217bbf72f19a8691958faaa06d3cad67f5803efa2b48264606d37de02af4cbcd", func := "loop.example/g01351/laws.FnExactTablesFor", spec := "fnExactTablesFor", plainKeys := false, apart := false, narrowed := true }
def FnExactTablesForUptoSaid : Prop := fnExactTablesForUptoRow.holds Try.pinned (OpenSpec.upto fnExactTablesForSpec)

/-- 'laws.FnExactBackBeam', WHERE WHAT IT READS IS OF BULK AT MOST 1048576: true; the input reads as it did. -/
def fnExactBackBeamUptoRow : OpenClaim := { program := "ytnhjiipkekblfaa", sum := "217bbf72f19a8691958faaa06d3cad67f5803efa2b48264606d37de02af4cbcd", func := "loop.example/g01351/laws.FnExactBackBeam", spec := "fnExactBackBeam", plainKeys := false, apart := false, narrowed := true }
def FnExactBackBeamUptoSaid : Prop := fnExactBackBeamUptoRow.holds Try.pinned (OpenSpec.upto fnExactBackBeamSpec)

/-- 'laws.FnExactUnfoldedPlace', WHERE WHAT IT READS IS OF BULK AT MOST 1048576: true; the input reads as it did. -/
def fnExactUnfoldedPlaceUptoRow : OpenClaim := { program := "ytnhjiipkekblfaa", sum := "217bbf72f19a8691958faaa06d3cad67f5803efa2b48264606d37de02af4cbcd", func := "loop.example/g01351/laws.FnExactUnfoldedPlace", spec := "fnExactUnfoldedPlace", plainKeys := false, apart := false, narrowed := true }
def FnExactUnfoldedPlaceUptoSaid : Prop := fnExactUnfoldedPlaceUptoRow.holds Try.pinned (OpenSpec.upto fnExactUnfoldedPlaceSpec)

end Rows
end Go.Proofs.Ytnhjiipkekblfaa

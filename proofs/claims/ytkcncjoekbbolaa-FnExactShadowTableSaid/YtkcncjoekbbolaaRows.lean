/-
  No cell of these rows narrows 'for every input' (looked for: loops, veiled, ifaces, maps, wideKeys, modest, calm, conditions, laid).
  DERIVED. THE GIVEN ROWS OF THIS SEAT. 17 by the template 'for every input the law returns true; each argument reads behind the call as it read before'; 0 by the template 'total and deterministic' (their statements: YtkcncjoekbbolaaTotals.lean).
  GIVEN WITH THE SEED: the statements are not yours to turn. If you find one false, say at which input.
  Laid BY PROGRAM, IN A SANDBOX (cutbox-rows.mjs): the forced cells as the released guide's own fill.sh prints them over the translation 4d6fe1c3d4b9dfb5… (all of the seat's roots in one cut). By AI agents, Wed Nov 11 2026. No macro, syntax, notation, axiom, sorry.
-/
import Derived.Test.YtkcncjoekbbolaaChecked
import GoSem.Claim
import GoSem.ClaimJoined
import GoSem.ClaimMapViews
import Derived.JoinedTies
import Derived.KernelRfl
namespace Go.Proofs.Ytkcncjoekbbolaa
/- THE CELL 'sum', in the pinned program and in every row, IS THE sha256 OF THE DUMP (.gsa) THAT YtkcncjoekbbolaaProg.lean LOADS. Nothing in Lean hashes anything: it is a label: what it is worth is what the hold of that sum in a sandbox is worth. -/
noncomputable def Try.pinned : Pinned := { name := "ytkcncjoekbbolaa", sum := "4d6fe1c3d4b9dfb5016eb93532d676955310dee18ad07573c33f6f63b6879d2e", checked := Try.checked }
namespace Rows
def none {H : Type} : Left H := { results := [], args := [] }

/-- 'laws.FnExactIsWalker': WHATEVER THE INPUT: true; the input reads as it did. -/
def fnExactIsWalkerSpec : ChangeSpec := { name := "fnExactIsWalker", fn := fun _ => fun
  | [d1, d2] => { results := [.lit (.bool true)], args := [d1, d2] }
  | _ => none }
def fnExactIsWalkerRow : OpenClaim := { program := "ytkcncjoekbbolaa", sum := "4d6fe1c3d4b9dfb5016eb93532d676955310dee18ad07573c33f6f63b6879d2e", func := "loop.example/g01351/laws.FnExactIsWalker", spec := "fnExactIsWalker", apart := false }
def FnExactIsWalkerSaid : Prop := fnExactIsWalkerRow.holds Try.pinned (OpenSpec.ofChange fnExactIsWalkerSpec)

/-- ITS FALSE NEIGHBOUR: 'it returns false'. Refute it at one input. -/
def fnExactIsWalkerWrong : ChangeSpec := { name := "fnExactIsWalker", fn := fun _ => fun
  | [d1, d2] => { results := [.lit (.bool false)], args := [d1, d2] }
  | _ => none }
def FnExactIsWalkerWrongFalsely : Prop := fnExactIsWalkerRow.holds Try.pinned (OpenSpec.ofChange fnExactIsWalkerWrong)

/-- 'laws.FnExactPlaceAt': WHATEVER THE INPUT: true; the input reads as it did. -/
def fnExactPlaceAtSpec : ChangeSpec := { name := "fnExactPlaceAt", fn := fun _ => fun
  | [d1, d2, d3] => { results := [.lit (.bool true)], args := [d1, d2, d3] }
  | _ => none }
def fnExactPlaceAtRow : OpenClaim := { program := "ytkcncjoekbbolaa", sum := "4d6fe1c3d4b9dfb5016eb93532d676955310dee18ad07573c33f6f63b6879d2e", func := "loop.example/g01351/laws.FnExactPlaceAt", spec := "fnExactPlaceAt", unfollowed := true, recurses := true, apart := false }
def FnExactPlaceAtSaid : Prop := fnExactPlaceAtRow.holds Try.pinned (OpenSpec.ofChange fnExactPlaceAtSpec)

/-- ITS FALSE NEIGHBOUR: 'it returns false'. Refute it at one input. -/
def fnExactPlaceAtWrong : ChangeSpec := { name := "fnExactPlaceAt", fn := fun _ => fun
  | [d1, d2, d3] => { results := [.lit (.bool false)], args := [d1, d2, d3] }
  | _ => none }
def FnExactPlaceAtWrongFalsely : Prop := fnExactPlaceAtRow.holds Try.pinned (OpenSpec.ofChange fnExactPlaceAtWrong)

/-- 'laws.FnExactTipAt': WHATEVER THE INPUT: true; the input reads as it did. -/
def fnExactTipAtSpec : ChangeSpec := { name := "fnExactTipAt", fn := fun _ => fun
  | [d1, d2, d3] => { results := [.lit (.bool true)], args := [d1, d2, d3] }
  | _ => none }
def fnExactTipAtRow : OpenClaim := { program := "ytkcncjoekbbolaa", sum := "4d6fe1c3d4b9dfb5016eb93532d676955310dee18ad07573c33f6f63b6879d2e", func := "loop.example/g01351/laws.FnExactTipAt", spec := "fnExactTipAt", unfollowed := true, recurses := true, apart := false }
def FnExactTipAtSaid : Prop := fnExactTipAtRow.holds Try.pinned (OpenSpec.ofChange fnExactTipAtSpec)

/-- ITS FALSE NEIGHBOUR: 'it returns false'. Refute it at one input. -/
def fnExactTipAtWrong : ChangeSpec := { name := "fnExactTipAt", fn := fun _ => fun
  | [d1, d2, d3] => { results := [.lit (.bool false)], args := [d1, d2, d3] }
  | _ => none }
def FnExactTipAtWrongFalsely : Prop := fnExactTipAtRow.holds Try.pinned (OpenSpec.ofChange fnExactTipAtWrong)

/-- 'laws.FnExactShadowAt': WHATEVER THE INPUT: true; the input reads as it did. -/
def fnExactShadowAtSpec : ChangeSpec := { name := "fnExactShadowAt", fn := fun _ => fun
  | [d1, d2, d3] => { results := [.lit (.bool true)], args := [d1, d2, d3] }
  | _ => none }
def fnExactShadowAtRow : OpenClaim := { program := "ytkcncjoekbbolaa", sum := "4d6fe1c3d4b9dfb5016eb93532d676955310dee18ad07573c33f6f63b6879d2e", func := "loop.example/g01351/laws.FnExactShadowAt", spec := "fnExactShadowAt", unfollowed := true, recurses := true, apart := false }
def FnExactShadowAtSaid : Prop := fnExactShadowAtRow.holds Try.pinned (OpenSpec.ofChange fnExactShadowAtSpec)

/-- ITS FALSE NEIGHBOUR: 'it returns false'. Refute it at one input. -/
def fnExactShadowAtWrong : ChangeSpec := { name := "fnExactShadowAt", fn := fun _ => fun
  | [d1, d2, d3] => { results := [.lit (.bool false)], args := [d1, d2, d3] }
  | _ => none }
def FnExactShadowAtWrongFalsely : Prop := fnExactShadowAtRow.holds Try.pinned (OpenSpec.ofChange fnExactShadowAtWrong)

/-- 'laws.FnExactTipSpeed': WHATEVER THE INPUT: true; the input reads as it did. -/
def fnExactTipSpeedSpec : ChangeSpec := { name := "fnExactTipSpeed", fn := fun _ => fun
  | [d1, d2] => { results := [.lit (.bool true)], args := [d1, d2] }
  | _ => none }
def fnExactTipSpeedRow : OpenClaim := { program := "ytkcncjoekbbolaa", sum := "4d6fe1c3d4b9dfb5016eb93532d676955310dee18ad07573c33f6f63b6879d2e", func := "loop.example/g01351/laws.FnExactTipSpeed", spec := "fnExactTipSpeed", unfollowed := true, recurses := true, apart := false }
def FnExactTipSpeedSaid : Prop := fnExactTipSpeedRow.holds Try.pinned (OpenSpec.ofChange fnExactTipSpeedSpec)

/-- ITS FALSE NEIGHBOUR: 'it returns false'. Refute it at one input. -/
def fnExactTipSpeedWrong : ChangeSpec := { name := "fnExactTipSpeed", fn := fun _ => fun
  | [d1, d2] => { results := [.lit (.bool false)], args := [d1, d2] }
  | _ => none }
def FnExactTipSpeedWrongFalsely : Prop := fnExactTipSpeedRow.holds Try.pinned (OpenSpec.ofChange fnExactTipSpeedWrong)

/-- 'laws.FnExactGrowSpeed': WHATEVER THE INPUT: true; the input reads as it did. -/
def fnExactGrowSpeedSpec : ChangeSpec := { name := "fnExactGrowSpeed", fn := fun _ => fun
  | [d1, d2] => { results := [.lit (.bool true)], args := [d1, d2] }
  | _ => none }
def fnExactGrowSpeedRow : OpenClaim := { program := "ytkcncjoekbbolaa", sum := "4d6fe1c3d4b9dfb5016eb93532d676955310dee18ad07573c33f6f63b6879d2e", func := "loop.example/g01351/laws.FnExactGrowSpeed", spec := "fnExactGrowSpeed", unfollowed := true, recurses := true, apart := false }
def FnExactGrowSpeedSaid : Prop := fnExactGrowSpeedRow.holds Try.pinned (OpenSpec.ofChange fnExactGrowSpeedSpec)

/-- ITS FALSE NEIGHBOUR: 'it returns false'. Refute it at one input. -/
def fnExactGrowSpeedWrong : ChangeSpec := { name := "fnExactGrowSpeed", fn := fun _ => fun
  | [d1, d2] => { results := [.lit (.bool false)], args := [d1, d2] }
  | _ => none }
def FnExactGrowSpeedWrongFalsely : Prop := fnExactGrowSpeedRow.holds Try.pinned (OpenSpec.ofChange fnExactGrowSpeedWrong)

/-- 'laws.FnExactMinuteAtLamp': WHATEVER THE INPUT: true; the input reads as it did. -/
def fnExactMinuteAtLampSpec : ChangeSpec := { name := "fnExactMinuteAtLamp", fn := fun _ => fun
  | [d1, d2] => { results := [.lit (.bool true)], args := [d1, d2] }
  | _ => none }
def fnExactMinuteAtLampRow : OpenClaim := { program := "ytkcncjoekbbolaa", sum := "4d6fe1c3d4b9dfb5016eb93532d676955310dee18ad07573c33f6f63b6879d2e", func := "loop.example/g01351/laws.FnExactMinuteAtLamp", spec := "fnExactMinuteAtLamp", unfollowed := true, recurses := true, apart := false }
def FnExactMinuteAtLampSaid : Prop := fnExactMinuteAtLampRow.holds Try.pinned (OpenSpec.ofChange fnExactMinuteAtLampSpec)

/-- ITS FALSE NEIGHBOUR: 'it returns false'. Refute it at one input. -/
def fnExactMinuteAtLampWrong : ChangeSpec := { name := "fnExactMinuteAtLamp", fn := fun _ => fun
  | [d1, d2] => { results := [.lit (.bool false)], args := [d1, d2] }
  | _ => none }
def FnExactMinuteAtLampWrongFalsely : Prop := fnExactMinuteAtLampRow.holds Try.pinned (OpenSpec.ofChange fnExactMinuteAtLampWrong)

/-- 'laws.FnExactMinuteOfShadow': WHATEVER THE INPUT: true; the input reads as it did. -/
def fnExactMinuteOfShadowSpec : ChangeSpec := { name := "fnExactMinuteOfShadow", fn := fun _ => fun
  | [d1, d2, d3] => { results := [.lit (.bool true)], args := [d1, d2, d3] }
  | _ => none }
def fnExactMinuteOfShadowRow : OpenClaim := { program := "ytkcncjoekbbolaa", sum := "4d6fe1c3d4b9dfb5016eb93532d676955310dee18ad07573c33f6f63b6879d2e", func := "loop.example/g01351/laws.FnExactMinuteOfShadow", spec := "fnExactMinuteOfShadow", unfollowed := true, recurses := true, apart := false }
def FnExactMinuteOfShadowSaid : Prop := fnExactMinuteOfShadowRow.holds Try.pinned (OpenSpec.ofChange fnExactMinuteOfShadowSpec)

/-- ITS FALSE NEIGHBOUR: 'it returns false'. Refute it at one input. -/
def fnExactMinuteOfShadowWrong : ChangeSpec := { name := "fnExactMinuteOfShadow", fn := fun _ => fun
  | [d1, d2, d3] => { results := [.lit (.bool false)], args := [d1, d2, d3] }
  | _ => none }
def FnExactMinuteOfShadowWrongFalsely : Prop := fnExactMinuteOfShadowRow.holds Try.pinned (OpenSpec.ofChange fnExactMinuteOfShadowWrong)

/-- 'laws.FnExactMinuteOfTip': WHATEVER THE INPUT: true; the input reads as it did. -/
def fnExactMinuteOfTipSpec : ChangeSpec := { name := "fnExactMinuteOfTip", fn := fun _ => fun
  | [d1, d2, d3] => { results := [.lit (.bool true)], args := [d1, d2, d3] }
  | _ => none }
def fnExactMinuteOfTipRow : OpenClaim := { program := "ytkcncjoekbbolaa", sum := "4d6fe1c3d4b9dfb5016eb93532d676955310dee18ad07573c33f6f63b6879d2e", func := "loop.example/g01351/laws.FnExactMinuteOfTip", spec := "fnExactMinuteOfTip", unfollowed := true, recurses := true, apart := false }
def FnExactMinuteOfTipSaid : Prop := fnExactMinuteOfTipRow.holds Try.pinned (OpenSpec.ofChange fnExactMinuteOfTipSpec)

/-- ITS FALSE NEIGHBOUR: 'it returns false'. Refute it at one input. -/
def fnExactMinuteOfTipWrong : ChangeSpec := { name := "fnExactMinuteOfTip", fn := fun _ => fun
  | [d1, d2, d3] => { results := [.lit (.bool false)], args := [d1, d2, d3] }
  | _ => none }
def FnExactMinuteOfTipWrongFalsely : Prop := fnExactMinuteOfTipRow.holds Try.pinned (OpenSpec.ofChange fnExactMinuteOfTipWrong)

/-- 'laws.FnExactTipsMeet': WHATEVER THE INPUT: true; the input reads as it did. -/
def fnExactTipsMeetSpec : ChangeSpec := { name := "fnExactTipsMeet", fn := fun _ => fun
  | [d1, d2, d3] => { results := [.lit (.bool true)], args := [d1, d2, d3] }
  | _ => none }
def fnExactTipsMeetRow : OpenClaim := { program := "ytkcncjoekbbolaa", sum := "4d6fe1c3d4b9dfb5016eb93532d676955310dee18ad07573c33f6f63b6879d2e", func := "loop.example/g01351/laws.FnExactTipsMeet", spec := "fnExactTipsMeet", unfollowed := true, recurses := true, apart := false }
def FnExactTipsMeetSaid : Prop := fnExactTipsMeetRow.holds Try.pinned (OpenSpec.ofChange fnExactTipsMeetSpec)

/-- ITS FALSE NEIGHBOUR: 'it returns false'. Refute it at one input. -/
def fnExactTipsMeetWrong : ChangeSpec := { name := "fnExactTipsMeet", fn := fun _ => fun
  | [d1, d2, d3] => { results := [.lit (.bool false)], args := [d1, d2, d3] }
  | _ => none }
def FnExactTipsMeetWrongFalsely : Prop := fnExactTipsMeetRow.holds Try.pinned (OpenSpec.ofChange fnExactTipsMeetWrong)

/-- 'laws.FnExactWalkersMeet': WHATEVER THE INPUT: true; the input reads as it did. -/
def fnExactWalkersMeetSpec : ChangeSpec := { name := "fnExactWalkersMeet", fn := fun _ => fun
  | [d1, d2, d3] => { results := [.lit (.bool true)], args := [d1, d2, d3] }
  | _ => none }
def fnExactWalkersMeetRow : OpenClaim := { program := "ytkcncjoekbbolaa", sum := "4d6fe1c3d4b9dfb5016eb93532d676955310dee18ad07573c33f6f63b6879d2e", func := "loop.example/g01351/laws.FnExactWalkersMeet", spec := "fnExactWalkersMeet", unfollowed := true, recurses := true, apart := false }
def FnExactWalkersMeetSaid : Prop := fnExactWalkersMeetRow.holds Try.pinned (OpenSpec.ofChange fnExactWalkersMeetSpec)

/-- ITS FALSE NEIGHBOUR: 'it returns false'. Refute it at one input. -/
def fnExactWalkersMeetWrong : ChangeSpec := { name := "fnExactWalkersMeet", fn := fun _ => fun
  | [d1, d2, d3] => { results := [.lit (.bool false)], args := [d1, d2, d3] }
  | _ => none }
def FnExactWalkersMeetWrongFalsely : Prop := fnExactWalkersMeetRow.holds Try.pinned (OpenSpec.ofChange fnExactWalkersMeetWrong)

/-- 'laws.FnExactIsInShadow': WHATEVER THE INPUT: true; the input reads as it did. -/
def fnExactIsInShadowSpec : ChangeSpec := { name := "fnExactIsInShadow", fn := fun _ => fun
  | [d1, d2, d3, d4] => { results := [.lit (.bool true)], args := [d1, d2, d3, d4] }
  | _ => none }
def fnExactIsInShadowRow : OpenClaim := { program := "ytkcncjoekbbolaa", sum := "4d6fe1c3d4b9dfb5016eb93532d676955310dee18ad07573c33f6f63b6879d2e", func := "loop.example/g01351/laws.FnExactIsInShadow", spec := "fnExactIsInShadow", unfollowed := true, recurses := true, apart := false }
def FnExactIsInShadowSaid : Prop := fnExactIsInShadowRow.holds Try.pinned (OpenSpec.ofChange fnExactIsInShadowSpec)

/-- ITS FALSE NEIGHBOUR: 'it returns false'. Refute it at one input. -/
def fnExactIsInShadowWrong : ChangeSpec := { name := "fnExactIsInShadow", fn := fun _ => fun
  | [d1, d2, d3, d4] => { results := [.lit (.bool false)], args := [d1, d2, d3, d4] }
  | _ => none }
def FnExactIsInShadowWrongFalsely : Prop := fnExactIsInShadowRow.holds Try.pinned (OpenSpec.ofChange fnExactIsInShadowWrong)

/-- 'laws.FnExactShadowTable': WHATEVER THE INPUT: true; the input reads as it did. -/
def fnExactShadowTableSpec : ChangeSpec := { name := "fnExactShadowTable", fn := fun _ => fun
  | [d1, d2, d3] => { results := [.lit (.bool true)], args := [d1, d2, d3] }
  | _ => none }
def fnExactShadowTableRow : OpenClaim := { program := "ytkcncjoekbbolaa", sum := "4d6fe1c3d4b9dfb5016eb93532d676955310dee18ad07573c33f6f63b6879d2e", func := "loop.example/g01351/laws.FnExactShadowTable", spec := "fnExactShadowTable", unfollowed := true, recurses := true, apart := false }
def FnExactShadowTableSaid : Prop := fnExactShadowTableRow.holds Try.pinned (OpenSpec.ofChange fnExactShadowTableSpec)

/-- ITS FALSE NEIGHBOUR: 'it returns false'. Refute it at one input. -/
def fnExactShadowTableWrong : ChangeSpec := { name := "fnExactShadowTable", fn := fun _ => fun
  | [d1, d2, d3] => { results := [.lit (.bool false)], args := [d1, d2, d3] }
  | _ => none }
def FnExactShadowTableWrongFalsely : Prop := fnExactShadowTableRow.holds Try.pinned (OpenSpec.ofChange fnExactShadowTableWrong)

/-- 'laws.FnExactSumOfShadows': WHATEVER THE INPUT: true; the input reads as it did. -/
def fnExactSumOfShadowsSpec : ChangeSpec := { name := "fnExactSumOfShadows", fn := fun _ => fun
  | [d1, d2, d3, d4, d5] => { results := [.lit (.bool true)], args := [d1, d2, d3, d4, d5] }
  | _ => none }
def fnExactSumOfShadowsRow : OpenClaim := { program := "ytkcncjoekbbolaa", sum := "4d6fe1c3d4b9dfb5016eb93532d676955310dee18ad07573c33f6f63b6879d2e", func := "loop.example/g01351/laws.FnExactSumOfShadows", spec := "fnExactSumOfShadows", apart := false }
def FnExactSumOfShadowsSaid : Prop := fnExactSumOfShadowsRow.holds Try.pinned (OpenSpec.ofChange fnExactSumOfShadowsSpec)

/-- ITS FALSE NEIGHBOUR: 'it returns false'. Refute it at one input. -/
def fnExactSumOfShadowsWrong : ChangeSpec := { name := "fnExactSumOfShadows", fn := fun _ => fun
  | [d1, d2, d3, d4, d5] => { results := [.lit (.bool false)], args := [d1, d2, d3, d4, d5] }
  | _ => none }
def FnExactSumOfShadowsWrongFalsely : Prop := fnExactSumOfShadowsRow.holds Try.pinned (OpenSpec.ofChange fnExactSumOfShadowsWrong)

/-- 'laws.FnExactEqualPlace': WHATEVER THE INPUT: true; the input reads as it did. -/
def fnExactEqualPlaceSpec : ChangeSpec := { name := "fnExactEqualPlace", fn := fun _ => fun
  | [d1, d2, d3, d4] => { results := [.lit (.bool true)], args := [d1, d2, d3, d4] }
  | _ => none }
def fnExactEqualPlaceRow : OpenClaim := { program := "ytkcncjoekbbolaa", sum := "4d6fe1c3d4b9dfb5016eb93532d676955310dee18ad07573c33f6f63b6879d2e", func := "loop.example/g01351/laws.FnExactEqualPlace", spec := "fnExactEqualPlace", apart := false }
def FnExactEqualPlaceSaid : Prop := fnExactEqualPlaceRow.holds Try.pinned (OpenSpec.ofChange fnExactEqualPlaceSpec)

/-- ITS FALSE NEIGHBOUR: 'it returns false'. Refute it at one input. -/
def fnExactEqualPlaceWrong : ChangeSpec := { name := "fnExactEqualPlace", fn := fun _ => fun
  | [d1, d2, d3, d4] => { results := [.lit (.bool false)], args := [d1, d2, d3, d4] }
  | _ => none }
def FnExactEqualPlaceWrongFalsely : Prop := fnExactEqualPlaceRow.holds Try.pinned (OpenSpec.ofChange fnExactEqualPlaceWrong)

/-- 'laws.FnExactConstantSum': WHATEVER THE INPUT: true; the input reads as it did. -/
def fnExactConstantSumSpec : ChangeSpec := { name := "fnExactConstantSum", fn := fun _ => fun
  | [d1, d2, d3] => { results := [.lit (.bool true)], args := [d1, d2, d3] }
  | _ => none }
def fnExactConstantSumRow : OpenClaim := { program := "ytkcncjoekbbolaa", sum := "4d6fe1c3d4b9dfb5016eb93532d676955310dee18ad07573c33f6f63b6879d2e", func := "loop.example/g01351/laws.FnExactConstantSum", spec := "fnExactConstantSum", apart := false }
def FnExactConstantSumSaid : Prop := fnExactConstantSumRow.holds Try.pinned (OpenSpec.ofChange fnExactConstantSumSpec)

/-- ITS FALSE NEIGHBOUR: 'it returns false'. Refute it at one input. -/
def fnExactConstantSumWrong : ChangeSpec := { name := "fnExactConstantSum", fn := fun _ => fun
  | [d1, d2, d3] => { results := [.lit (.bool false)], args := [d1, d2, d3] }
  | _ => none }
def FnExactConstantSumWrongFalsely : Prop := fnExactConstantSumRow.holds Try.pinned (OpenSpec.ofChange fnExactConstantSumWrong)

/-- 'laws.FnExactTurnWalker': WHATEVER THE INPUT: true; the input reads as it did. -/
def fnExactTurnWalkerSpec : ChangeSpec := { name := "fnExactTurnWalker", fn := fun _ => fun
  | [d1, d2] => { results := [.lit (.bool true)], args := [d1, d2] }
  | _ => none }
def fnExactTurnWalkerRow : OpenClaim := { program := "ytkcncjoekbbolaa", sum := "4d6fe1c3d4b9dfb5016eb93532d676955310dee18ad07573c33f6f63b6879d2e", func := "loop.example/g01351/laws.FnExactTurnWalker", spec := "fnExactTurnWalker", apart := false }
def FnExactTurnWalkerSaid : Prop := fnExactTurnWalkerRow.holds Try.pinned (OpenSpec.ofChange fnExactTurnWalkerSpec)

/-- ITS FALSE NEIGHBOUR: 'it returns false'. Refute it at one input. -/
def fnExactTurnWalkerWrong : ChangeSpec := { name := "fnExactTurnWalker", fn := fun _ => fun
  | [d1, d2] => { results := [.lit (.bool false)], args := [d1, d2] }
  | _ => none }
def FnExactTurnWalkerWrongFalsely : Prop := fnExactTurnWalkerRow.holds Try.pinned (OpenSpec.ofChange fnExactTurnWalkerWrong)

/- THE SECOND FORM. 'bulk': how many values and letters a reading holds, each counted each time it is reached (what is shared counts as often as it is met; a slice's spare places count too). A statement '..UptoSaid' is the law's where the arguments, and the package variables that the reading takes, are together of bulk at most 1048576: NARROWER than '..Said'. Prove '..Said' where nothing that the law and all that it calls make is longer than what came in: it says more and counts as full. Else prove '..UptoSaid'. A law counts once. -/
mutual
def uptoBulk {H : Type} : DataW H → Nat
  | .lit (.string bytes) => bytes.length + 1
  | .lit _ => 1
  | .nil => 1
  | .ptr d => uptoBulk d + 1
  | .slice elems spare => uptoBulkAll elems + uptoBulkAll spare + 1
  | .agg parts => uptoBulkAll parts + 1
  | .iface _ d => uptoBulk d + 1
  | .map entries => uptoBulkEntries entries + 1
  | .held _ => 1
def uptoBulkAll {H : Type} : List (DataW H) → Nat
  | [] => 0
  | d :: r => uptoBulk d + uptoBulkAll r
def uptoBulkEntries {H : Type} : List (Lit × DataW H) → Nat
  | [] => 0
  | x :: r => uptoBulkEntry x + uptoBulkEntries r
def uptoBulkEntry {H : Type} : Lit × DataW H → Nat
  | (.string bytes, d) => bytes.length + uptoBulk d + 1
  | (_, d) => uptoBulk d + 1
 end
def uptoSmall : (H : Type) → List (DataW H) → Bool := fun _ ds => decide (uptoBulkAll ds ≤ 1048576)
def OpenSpec.upto (s : _root_.Go.ChangeSpec) : _root_.Go.OpenSpec := { _root_.Go.OpenSpec.ofChange s with cond := some uptoSmall }

/-- 'laws.FnExactIsWalker', WHERE WHAT IT READS IS OF BULK AT MOST 1048576: true; the input reads as it did. -/
def fnExactIsWalkerUptoRow : OpenClaim := { program := "ytkcncjoekbbolaa", sum := "4d6fe1c3d4b9dfb5016eb93532d676955310dee18ad07573c33f6f63b6879d2e", func := "loop.example/g01351/laws.FnExactIsWalker", spec := "fnExactIsWalker", apart := false, narrowed := true }
def FnExactIsWalkerUptoSaid : Prop := fnExactIsWalkerUptoRow.holds Try.pinned (OpenSpec.upto fnExactIsWalkerSpec)

/-- 'laws.FnExactPlaceAt', WHERE WHAT IT READS IS OF BULK AT MOST 1048576: true; the input reads as it did. -/
def fnExactPlaceAtUptoRow : OpenClaim := { program := "ytkcncjoekbbolaa", sum := "4d6fe1c3d4b9dfb5016eb93532d676955310dee18ad07573c33f6f63b6879d2e", func := "loop.example/g01351/laws.FnExactPlaceAt", spec := "fnExactPlaceAt", unfollowed := true, recurses := true, apart := false, narrowed := true }
def FnExactPlaceAtUptoSaid : Prop := fnExactPlaceAtUptoRow.holds Try.pinned (OpenSpec.upto fnExactPlaceAtSpec)

/-- 'laws.FnExactTipAt', WHERE WHAT IT READS IS OF BULK AT MOST 1048576: true; the input reads as it did. -/
def fnExactTipAtUptoRow : OpenClaim := { program := "ytkcncjoekbbolaa", sum := "4d6fe1c3d4b9dfb5016eb93532d676955310dee18ad07573c33f6f63b6879d2e", func := "loop.example/g01351/laws.FnExactTipAt", spec := "fnExactTipAt", unfollowed := true, recurses := true, apart := false, narrowed := true }
def FnExactTipAtUptoSaid : Prop := fnExactTipAtUptoRow.holds Try.pinned (OpenSpec.upto fnExactTipAtSpec)

/-- 'laws.FnExactShadowAt', WHERE WHAT IT READS IS OF BULK AT MOST 1048576: true; the input reads as it did. -/
def fnExactShadowAtUptoRow : OpenClaim := { program := "ytkcncjoekbbolaa", sum := "4d6fe1c3d4b9dfb5016eb93532d676955310dee18ad07573c33f6f63b6879d2e", func := "loop.example/g01351/laws.FnExactShadowAt", spec := "fnExactShadowAt", unfollowed := true, recurses := true, apart := false, narrowed := true }
def FnExactShadowAtUptoSaid : Prop := fnExactShadowAtUptoRow.holds Try.pinned (OpenSpec.upto fnExactShadowAtSpec)

/-- 'laws.FnExactTipSpeed', WHERE WHAT IT READS IS OF BULK AT MOST 1048576: true; the input reads as it did. -/
def fnExactTipSpeedUptoRow : OpenClaim := { program := "ytkcncjoekbbolaa", sum := "4d6fe1c3d4b9dfb5016eb93532d676955310dee18ad07573c33f6f63b6879d2e", func := "loop.example/g01351/laws.FnExactTipSpeed", spec := "fnExactTipSpeed", unfollowed := true, recurses := true, apart := false, narrowed := true }
def FnExactTipSpeedUptoSaid : Prop := fnExactTipSpeedUptoRow.holds Try.pinned (OpenSpec.upto fnExactTipSpeedSpec)

/-- 'laws.FnExactGrowSpeed', WHERE WHAT IT READS IS OF BULK AT MOST 1048576: true; the input reads as it did. -/
def fnExactGrowSpeedUptoRow : OpenClaim := { program := "ytkcncjoekbbolaa", sum := "4d6fe1c3d4b9dfb5016eb93532d676955310dee18ad07573c33f6f63b6879d2e", func := "loop.example/g01351/laws.FnExactGrowSpeed", spec := "fnExactGrowSpeed", unfollowed := true, recurses := true, apart := false, narrowed := true }
def FnExactGrowSpeedUptoSaid : Prop := fnExactGrowSpeedUptoRow.holds Try.pinned (OpenSpec.upto fnExactGrowSpeedSpec)

/-- 'laws.FnExactMinuteAtLamp', WHERE WHAT IT READS IS OF BULK AT MOST 1048576: true; the input reads as it did. -/
def fnExactMinuteAtLampUptoRow : OpenClaim := { program := "ytkcncjoekbbolaa", sum := "4d6fe1c3d4b9dfb5016eb93532d676955310dee18ad07573c33f6f63b6879d2e", func := "loop.example/g01351/laws.FnExactMinuteAtLamp", spec := "fnExactMinuteAtLamp", unfollowed := true, recurses := true, apart := false, narrowed := true }
def FnExactMinuteAtLampUptoSaid : Prop := fnExactMinuteAtLampUptoRow.holds Try.pinned (OpenSpec.upto fnExactMinuteAtLampSpec)

/-- 'laws.FnExactMinuteOfShadow', WHERE WHAT IT READS IS OF BULK AT MOST 1048576: true; the input reads as it did. -/
def fnExactMinuteOfShadowUptoRow : OpenClaim := { program := "ytkcncjoekbbolaa", sum := "4d6fe1c3d4b9dfb5016eb93532d676955310dee18ad07573c33f6f63b6879d2e", func := "loop.example/g01351/laws.FnExactMinuteOfShadow", spec := "fnExactMinuteOfShadow", unfollowed := true, recurses := true, apart := false, narrowed := true }
def FnExactMinuteOfShadowUptoSaid : Prop := fnExactMinuteOfShadowUptoRow.holds Try.pinned (OpenSpec.upto fnExactMinuteOfShadowSpec)

/-- 'laws.FnExactMinuteOfTip', WHERE WHAT IT READS IS OF BULK AT MOST 1048576: true; the input reads as it did. -/
def fnExactMinuteOfTipUptoRow : OpenClaim := { program := "ytkcncjoekbbolaa", sum := "4d6fe1c3d4b9dfb5016eb93532d676955310dee18ad07573c33f6f63b6879d2e", func := "loop.example/g01351/laws.FnExactMinuteOfTip", spec := "fnExactMinuteOfTip", unfollowed := true, recurses := true, apart := false, narrowed := true }
def FnExactMinuteOfTipUptoSaid : Prop := fnExactMinuteOfTipUptoRow.holds Try.pinned (OpenSpec.upto fnExactMinuteOfTipSpec)

/-- 'laws.FnExactTipsMeet', WHERE WHAT IT READS IS OF BULK AT MOST 1048576: true; the input reads as it did. -/
def fnExactTipsMeetUptoRow : OpenClaim := { program := "ytkcncjoekbbolaa", sum := "4d6fe1c3d4b9dfb5016eb93532d676955310dee18ad07573c33f6f63b6879d2e", func := "loop.example/g01351/laws.FnExactTipsMeet", spec := "fnExactTipsMeet", unfollowed := true, recurses := true, apart := false, narrowed := true }
def FnExactTipsMeetUptoSaid : Prop := fnExactTipsMeetUptoRow.holds Try.pinned (OpenSpec.upto fnExactTipsMeetSpec)

/-- 'laws.FnExactWalkersMeet', WHERE WHAT IT READS IS OF BULK AT MOST 1048576: true; the input reads as it did. -/
def fnExactWalkersMeetUptoRow : OpenClaim := { program := "ytkcncjoekbbolaa", sum := "4d6fe1c3d4b9dfb5016eb93532d676955310dee18ad07573c33f6f63b6879d2e", func := "loop.example/g01351/laws.FnExactWalkersMeet", spec := "fnExactWalkersMeet", unfollowed := true, recurses := true, apart := false, narrowed := true }
def FnExactWalkersMeetUptoSaid : Prop := fnExactWalkersMeetUptoRow.holds Try.pinned (OpenSpec.upto fnExactWalkersMeetSpec)

/-- 'laws.FnExactIsInShadow', WHERE WHAT IT READS IS OF BULK AT MOST 1048576: true; the input reads as it did. -/
def fnExactIsInShadowUptoRow : OpenClaim := { program := "ytkcncjoekbbolaa", sum := "4d6fe1c3d4b9dfb5016eb93532d676955310dee18ad07573c33f6f63b6879d2e", func := "loop.example/g01351/laws.FnExactIsInShadow", spec := "fnExactIsInShadow", unfollowed := true, recurses := true, apart := false, narrowed := true }
def FnExactIsInShadowUptoSaid : Prop := fnExactIsInShadowUptoRow.holds Try.pinned (OpenSpec.upto fnExactIsInShadowSpec)

/-- 'laws.FnExactShadowTable', WHERE WHAT IT READS IS OF BULK AT MOST 1048576: true; the input reads as it did. -/
def fnExactShadowTableUptoRow : OpenClaim := { program := "ytkcncjoekbbolaa", sum := "4d6fe1c3d4b9dfb5016eb93532d676955310dee18ad07573c33f6f63b6879d2e", func := "loop.example/g01351/laws.FnExactShadowTable", spec := "fnExactShadowTable", unfollowed := true, recurses := true, apart := false, narrowed := true }
def FnExactShadowTableUptoSaid : Prop := fnExactShadowTableUptoRow.holds Try.pinned (OpenSpec.upto fnExactShadowTableSpec)

/-- 'laws.FnExactSumOfShadows', WHERE WHAT IT READS IS OF BULK AT MOST 1048576: true; the input reads as it did. -/
def fnExactSumOfShadowsUptoRow : OpenClaim := { program := "ytkcncjoekbbolaa", sum := "4d6fe1c3d4b9dfb5016eb93532d676955310dee18ad07573c33f6f63b6879d2e", func := "loop.example/g01351/laws.FnExactSumOfShadows", spec := "fnExactSumOfShadows", apart := false, narrowed := true }
def FnExactSumOfShadowsUptoSaid : Prop := fnExactSumOfShadowsUptoRow.holds Try.pinned (OpenSpec.upto fnExactSumOfShadowsSpec)

/-- 'laws.FnExactEqualPlace', WHERE WHAT IT READS IS OF BULK AT MOST 1048576: true; the input reads as it did. -/
def fnExactEqualPlaceUptoRow : OpenClaim := { program := "ytkcncjoekbbolaa", sum := "4d6fe1c3d4b9dfb5016eb93532d676955310dee18ad07573c33f6f63b6879d2e", func := "loop.example/g01351/laws.FnExactEqualPlace", spec := "fnExactEqualPlace", apart := false, narrowed := true }
def FnExactEqualPlaceUptoSaid : Prop := fnExactEqualPlaceUptoRow.holds Try.pinned (OpenSpec.upto fnExactEqualPlaceSpec)

/-- 'laws.FnExactConstantSum', WHERE WHAT IT READS IS OF BULK AT MOST 1048576: true; the input reads as it did. -/
def fnExactConstantSumUptoRow : OpenClaim := { program := "ytkcncjoekbbolaa", sum := "4d6fe1c3d4b9dfb5016eb93532d676955310dee18ad07573c33f6f63b6879d2e", func := "loop.example/g01351/laws.FnExactConstantSum", spec := "fnExactConstantSum", apart := false, narrowed := true }
def FnExactConstantSumUptoSaid : Prop := fnExactConstantSumUptoRow.holds Try.pinned (OpenSpec.upto fnExactConstantSumSpec)

/-- 'laws.FnExactTurnWalker', WHERE WHAT IT READS IS OF BULK AT MOST 1048576: true; the input reads as it did. -/
def fnExactTurnWalkerUptoRow : OpenClaim := { program := "ytkcncjoekbbolaa", sum := "4d6fe1c3d4b9dfb5016eb93532d676955310dee18ad07573c33f6f63b6879d2e", func := "loop.example/g01351/laws.FnExactTurnWalker", spec := "fnExactTurnWalker", apart := false, narrowed := true }
def FnExactTurnWalkerUptoSaid : Prop := fnExactTurnWalkerUptoRow.holds Try.pinned (OpenSpec.upto fnExactTurnWalkerSpec)

end Rows
end Go.Proofs.Ytkcncjoekbbolaa

/-
  No cell of these rows narrows 'for every input' (looked for: loops, veiled, ifaces, maps, wideKeys, modest, calm, conditions, laid).
  DERIVED. THE GIVEN ROWS OF THIS SEAT. 16 by the template 'for every input the law returns true; each argument reads behind the call as it read before'; 0 by the template 'total and deterministic' (their statements: YtdlknbdgbmjkpaaTotals.lean).
  GIVEN WITH THE SEED: the statements are not yours to turn. If you find one false, say at which input.
  Laid BY PROGRAM, IN A SANDBOX (cutbox-rows.mjs): the forced cells as the released guide's own fill.sh prints them over the translation 8fb0aa98d0c74910… (all of the seat's roots in one cut). By AI agents, Wed Nov 11 2026. No macro, syntax, notation, axiom, sorry.
-/
import Derived.Test.YtdlknbdgbmjkpaaChecked
import GoSem.Claim
import GoSem.ClaimJoined
import GoSem.ClaimMapViews
import Derived.JoinedTies
import Derived.KernelRfl
namespace Go.Proofs.Ytdlknbdgbmjkpaa
/- THE CELL 'sum', in the pinned program and in every row, IS THE sha256 OF THE DUMP (.gsa) THAT YtdlknbdgbmjkpaaProg.lean LOADS. Nothing in Lean hashes anything: it is a label: what it is worth is what the hold of that sum in a sandbox is worth. -/
noncomputable def Try.pinned : Pinned := { name := "ytdlknbdgbmjkpaa", sum := "8fb0aa98d0c749107da69676437990a2b6d41c767bd39cda88ba6d2698ecd52a", checked := Try.checked }
namespace Rows
def none {H : Type} : Left H := { results := [], args := [] }

/-- 'laws.FnExactTowerByShadow': WHATEVER THE INPUT: true; the input reads as it did. -/
def fnExactTowerByShadowSpec : ChangeSpec := { name := "fnExactTowerByShadow", fn := fun _ => fun
  | [d1, d2, d3] => { results := [.lit (.bool true)], args := [d1, d2, d3] }
  | _ => none }
def fnExactTowerByShadowRow : OpenClaim := { program := "ytdlknbdgbmjkpaa", sum := "8fb0aa98d0c749107da69676437990a2b6d41c767bd39cda88ba6d2698ecd52a", func := "loop.example/g01351/laws.FnExactTowerByShadow", spec := "fnExactTowerByShadow", unfollowed := true, recurses := true, apart := false }
def FnExactTowerByShadowSaid : Prop := fnExactTowerByShadowRow.holds Try.pinned (OpenSpec.ofChange fnExactTowerByShadowSpec)

/-- ITS FALSE NEIGHBOUR: 'it returns false'. Refute it at one input. -/
def fnExactTowerByShadowWrong : ChangeSpec := { name := "fnExactTowerByShadow", fn := fun _ => fun
  | [d1, d2, d3] => { results := [.lit (.bool false)], args := [d1, d2, d3] }
  | _ => none }
def FnExactTowerByShadowWrongFalsely : Prop := fnExactTowerByShadowRow.holds Try.pinned (OpenSpec.ofChange fnExactTowerByShadowWrong)

/-- 'laws.FnExactTowerByMirror': WHATEVER THE INPUT: true; the input reads as it did. -/
def fnExactTowerByMirrorSpec : ChangeSpec := { name := "fnExactTowerByMirror", fn := fun _ => fun
  | [d1, d2, d3] => { results := [.lit (.bool true)], args := [d1, d2, d3] }
  | _ => none }
def fnExactTowerByMirrorRow : OpenClaim := { program := "ytdlknbdgbmjkpaa", sum := "8fb0aa98d0c749107da69676437990a2b6d41c767bd39cda88ba6d2698ecd52a", func := "loop.example/g01351/laws.FnExactTowerByMirror", spec := "fnExactTowerByMirror", unfollowed := true, recurses := true, apart := false }
def FnExactTowerByMirrorSaid : Prop := fnExactTowerByMirrorRow.holds Try.pinned (OpenSpec.ofChange fnExactTowerByMirrorSpec)

/-- ITS FALSE NEIGHBOUR: 'it returns false'. Refute it at one input. -/
def fnExactTowerByMirrorWrong : ChangeSpec := { name := "fnExactTowerByMirror", fn := fun _ => fun
  | [d1, d2, d3] => { results := [.lit (.bool false)], args := [d1, d2, d3] }
  | _ => none }
def FnExactTowerByMirrorWrongFalsely : Prop := fnExactTowerByMirrorRow.holds Try.pinned (OpenSpec.ofChange fnExactTowerByMirrorWrong)

/-- 'laws.FnExactTreeByStaff': WHATEVER THE INPUT: true; the input reads as it did. -/
def fnExactTreeByStaffSpec : ChangeSpec := { name := "fnExactTreeByStaff", fn := fun _ => fun
  | [d1, d2, d3, d4] => { results := [.lit (.bool true)], args := [d1, d2, d3, d4] }
  | _ => none }
def fnExactTreeByStaffRow : OpenClaim := { program := "ytdlknbdgbmjkpaa", sum := "8fb0aa98d0c749107da69676437990a2b6d41c767bd39cda88ba6d2698ecd52a", func := "loop.example/g01351/laws.FnExactTreeByStaff", spec := "fnExactTreeByStaff", unfollowed := true, recurses := true, apart := false }
def FnExactTreeByStaffSaid : Prop := fnExactTreeByStaffRow.holds Try.pinned (OpenSpec.ofChange fnExactTreeByStaffSpec)

/-- ITS FALSE NEIGHBOUR: 'it returns false'. Refute it at one input. -/
def fnExactTreeByStaffWrong : ChangeSpec := { name := "fnExactTreeByStaff", fn := fun _ => fun
  | [d1, d2, d3, d4] => { results := [.lit (.bool false)], args := [d1, d2, d3, d4] }
  | _ => none }
def FnExactTreeByStaffWrongFalsely : Prop := fnExactTreeByStaffRow.holds Try.pinned (OpenSpec.ofChange fnExactTreeByStaffWrong)

/-- 'laws.FnExactStaffForTree': WHATEVER THE INPUT: true; the input reads as it did. -/
def fnExactStaffForTreeSpec : ChangeSpec := { name := "fnExactStaffForTree", fn := fun _ => fun
  | [d1, d2, d3, d4] => { results := [.lit (.bool true)], args := [d1, d2, d3, d4] }
  | _ => none }
def fnExactStaffForTreeRow : OpenClaim := { program := "ytdlknbdgbmjkpaa", sum := "8fb0aa98d0c749107da69676437990a2b6d41c767bd39cda88ba6d2698ecd52a", func := "loop.example/g01351/laws.FnExactStaffForTree", spec := "fnExactStaffForTree", unfollowed := true, recurses := true, apart := false }
def FnExactStaffForTreeSaid : Prop := fnExactStaffForTreeRow.holds Try.pinned (OpenSpec.ofChange fnExactStaffForTreeSpec)

/-- ITS FALSE NEIGHBOUR: 'it returns false'. Refute it at one input. -/
def fnExactStaffForTreeWrong : ChangeSpec := { name := "fnExactStaffForTree", fn := fun _ => fun
  | [d1, d2, d3, d4] => { results := [.lit (.bool false)], args := [d1, d2, d3, d4] }
  | _ => none }
def FnExactStaffForTreeWrongFalsely : Prop := fnExactStaffForTreeRow.holds Try.pinned (OpenSpec.ofChange fnExactStaffForTreeWrong)

/-- 'laws.FnExactWellDepth': WHATEVER THE INPUT: true; the input reads as it did. -/
def fnExactWellDepthSpec : ChangeSpec := { name := "fnExactWellDepth", fn := fun _ => fun
  | [d1, d2, d3] => { results := [.lit (.bool true)], args := [d1, d2, d3] }
  | _ => none }
def fnExactWellDepthRow : OpenClaim := { program := "ytdlknbdgbmjkpaa", sum := "8fb0aa98d0c749107da69676437990a2b6d41c767bd39cda88ba6d2698ecd52a", func := "loop.example/g01351/laws.FnExactWellDepth", spec := "fnExactWellDepth", unfollowed := true, recurses := true, apart := false }
def FnExactWellDepthSaid : Prop := fnExactWellDepthRow.holds Try.pinned (OpenSpec.ofChange fnExactWellDepthSpec)

/-- ITS FALSE NEIGHBOUR: 'it returns false'. Refute it at one input. -/
def fnExactWellDepthWrong : ChangeSpec := { name := "fnExactWellDepth", fn := fun _ => fun
  | [d1, d2, d3] => { results := [.lit (.bool false)], args := [d1, d2, d3] }
  | _ => none }
def FnExactWellDepthWrongFalsely : Prop := fnExactWellDepthRow.holds Try.pinned (OpenSpec.ofChange fnExactWellDepthWrong)

/-- 'laws.FnExactRiverWide': WHATEVER THE INPUT: true; the input reads as it did. -/
def fnExactRiverWideSpec : ChangeSpec := { name := "fnExactRiverWide", fn := fun _ => fun
  | [d1, d2, d3] => { results := [.lit (.bool true)], args := [d1, d2, d3] }
  | _ => none }
def fnExactRiverWideRow : OpenClaim := { program := "ytdlknbdgbmjkpaa", sum := "8fb0aa98d0c749107da69676437990a2b6d41c767bd39cda88ba6d2698ecd52a", func := "loop.example/g01351/laws.FnExactRiverWide", spec := "fnExactRiverWide", unfollowed := true, recurses := true, apart := false }
def FnExactRiverWideSaid : Prop := fnExactRiverWideRow.holds Try.pinned (OpenSpec.ofChange fnExactRiverWideSpec)

/-- ITS FALSE NEIGHBOUR: 'it returns false'. Refute it at one input. -/
def fnExactRiverWideWrong : ChangeSpec := { name := "fnExactRiverWide", fn := fun _ => fun
  | [d1, d2, d3] => { results := [.lit (.bool false)], args := [d1, d2, d3] }
  | _ => none }
def FnExactRiverWideWrongFalsely : Prop := fnExactRiverWideRow.holds Try.pinned (OpenSpec.ofChange fnExactRiverWideWrong)

/-- 'laws.FnExactIsIsland': WHATEVER THE INPUT: true; the input reads as it did. -/
def fnExactIsIslandSpec : ChangeSpec := { name := "fnExactIsIsland", fn := fun _ => fun
  | [d] => { results := [.lit (.bool true)], args := [d] }
  | _ => none }
def fnExactIsIslandRow : OpenClaim := { program := "ytdlknbdgbmjkpaa", sum := "8fb0aa98d0c749107da69676437990a2b6d41c767bd39cda88ba6d2698ecd52a", func := "loop.example/g01351/laws.FnExactIsIsland", spec := "fnExactIsIsland", apart := false }
def FnExactIsIslandSaid : Prop := fnExactIsIslandRow.holds Try.pinned (OpenSpec.ofChange fnExactIsIslandSpec)

/-- ITS FALSE NEIGHBOUR: 'it returns false'. Refute it at one input. -/
def fnExactIsIslandWrong : ChangeSpec := { name := "fnExactIsIsland", fn := fun _ => fun
  | [d] => { results := [.lit (.bool false)], args := [d] }
  | _ => none }
def FnExactIsIslandWrongFalsely : Prop := fnExactIsIslandRow.holds Try.pinned (OpenSpec.ofChange fnExactIsIslandWrong)

/-- 'laws.FnExactIslandHeight': WHATEVER THE INPUT: true; the input reads as it did. -/
def fnExactIslandHeightSpec : ChangeSpec := { name := "fnExactIslandHeight", fn := fun _ => fun
  | [d] => { results := [.lit (.bool true)], args := [d] }
  | _ => none }
def fnExactIslandHeightRow : OpenClaim := { program := "ytdlknbdgbmjkpaa", sum := "8fb0aa98d0c749107da69676437990a2b6d41c767bd39cda88ba6d2698ecd52a", func := "loop.example/g01351/laws.FnExactIslandHeight", spec := "fnExactIslandHeight", unfollowed := true, recurses := true, apart := false }
def FnExactIslandHeightSaid : Prop := fnExactIslandHeightRow.holds Try.pinned (OpenSpec.ofChange fnExactIslandHeightSpec)

/-- ITS FALSE NEIGHBOUR: 'it returns false'. Refute it at one input. -/
def fnExactIslandHeightWrong : ChangeSpec := { name := "fnExactIslandHeight", fn := fun _ => fun
  | [d] => { results := [.lit (.bool false)], args := [d] }
  | _ => none }
def FnExactIslandHeightWrongFalsely : Prop := fnExactIslandHeightRow.holds Try.pinned (OpenSpec.ofChange fnExactIslandHeightWrong)

/-- 'laws.FnExactIslandAway': WHATEVER THE INPUT: true; the input reads as it did. -/
def fnExactIslandAwaySpec : ChangeSpec := { name := "fnExactIslandAway", fn := fun _ => fun
  | [d] => { results := [.lit (.bool true)], args := [d] }
  | _ => none }
def fnExactIslandAwayRow : OpenClaim := { program := "ytdlknbdgbmjkpaa", sum := "8fb0aa98d0c749107da69676437990a2b6d41c767bd39cda88ba6d2698ecd52a", func := "loop.example/g01351/laws.FnExactIslandAway", spec := "fnExactIslandAway", unfollowed := true, recurses := true, apart := false }
def FnExactIslandAwaySaid : Prop := fnExactIslandAwayRow.holds Try.pinned (OpenSpec.ofChange fnExactIslandAwaySpec)

/-- ITS FALSE NEIGHBOUR: 'it returns false'. Refute it at one input. -/
def fnExactIslandAwayWrong : ChangeSpec := { name := "fnExactIslandAway", fn := fun _ => fun
  | [d] => { results := [.lit (.bool false)], args := [d] }
  | _ => none }
def FnExactIslandAwayWrongFalsely : Prop := fnExactIslandAwayRow.holds Try.pinned (OpenSpec.ofChange fnExactIslandAwayWrong)

/-- 'laws.FnExactSecondStep': WHATEVER THE INPUT: true; the input reads as it did. -/
def fnExactSecondStepSpec : ChangeSpec := { name := "fnExactSecondStep", fn := fun _ => fun
  | [d1, d2, d3, d4] => { results := [.lit (.bool true)], args := [d1, d2, d3, d4] }
  | _ => none }
def fnExactSecondStepRow : OpenClaim := { program := "ytdlknbdgbmjkpaa", sum := "8fb0aa98d0c749107da69676437990a2b6d41c767bd39cda88ba6d2698ecd52a", func := "loop.example/g01351/laws.FnExactSecondStep", spec := "fnExactSecondStep", unfollowed := true, recurses := true, apart := false }
def FnExactSecondStepSaid : Prop := fnExactSecondStepRow.holds Try.pinned (OpenSpec.ofChange fnExactSecondStepSpec)

/-- ITS FALSE NEIGHBOUR: 'it returns false'. Refute it at one input. -/
def fnExactSecondStepWrong : ChangeSpec := { name := "fnExactSecondStep", fn := fun _ => fun
  | [d1, d2, d3, d4] => { results := [.lit (.bool false)], args := [d1, d2, d3, d4] }
  | _ => none }
def FnExactSecondStepWrongFalsely : Prop := fnExactSecondStepRow.holds Try.pinned (OpenSpec.ofChange fnExactSecondStepWrong)

/-- 'laws.FnExactStepsForIsland': WHATEVER THE INPUT: true; the input reads as it did. -/
def fnExactStepsForIslandSpec : ChangeSpec := { name := "fnExactStepsForIsland", fn := fun _ => fun
  | [d1, d2, d3, d4] => { results := [.lit (.bool true)], args := [d1, d2, d3, d4] }
  | _ => none }
def fnExactStepsForIslandRow : OpenClaim := { program := "ytdlknbdgbmjkpaa", sum := "8fb0aa98d0c749107da69676437990a2b6d41c767bd39cda88ba6d2698ecd52a", func := "loop.example/g01351/laws.FnExactStepsForIsland", spec := "fnExactStepsForIsland", unfollowed := true, recurses := true, apart := false }
def FnExactStepsForIslandSaid : Prop := fnExactStepsForIslandRow.holds Try.pinned (OpenSpec.ofChange fnExactStepsForIslandSpec)

/-- ITS FALSE NEIGHBOUR: 'it returns false'. Refute it at one input. -/
def fnExactStepsForIslandWrong : ChangeSpec := { name := "fnExactStepsForIsland", fn := fun _ => fun
  | [d1, d2, d3, d4] => { results := [.lit (.bool false)], args := [d1, d2, d3, d4] }
  | _ => none }
def FnExactStepsForIslandWrongFalsely : Prop := fnExactStepsForIslandRow.holds Try.pinned (OpenSpec.ofChange fnExactStepsForIslandWrong)

/-- 'laws.FnExactWholeIslands': WHATEVER THE INPUT: true; the input reads as it did. -/
def fnExactWholeIslandsSpec : ChangeSpec := { name := "fnExactWholeIslands", fn := fun _ => fun
  | [d1, d2] => { results := [.lit (.bool true)], args := [d1, d2] }
  | _ => none }
def fnExactWholeIslandsRow : OpenClaim := { program := "ytdlknbdgbmjkpaa", sum := "8fb0aa98d0c749107da69676437990a2b6d41c767bd39cda88ba6d2698ecd52a", func := "loop.example/g01351/laws.FnExactWholeIslands", spec := "fnExactWholeIslands", unfollowed := true, recurses := true, apart := false }
def FnExactWholeIslandsSaid : Prop := fnExactWholeIslandsRow.holds Try.pinned (OpenSpec.ofChange fnExactWholeIslandsSpec)

/-- ITS FALSE NEIGHBOUR: 'it returns false'. Refute it at one input. -/
def fnExactWholeIslandsWrong : ChangeSpec := { name := "fnExactWholeIslands", fn := fun _ => fun
  | [d1, d2] => { results := [.lit (.bool false)], args := [d1, d2] }
  | _ => none }
def FnExactWholeIslandsWrongFalsely : Prop := fnExactWholeIslandsRow.holds Try.pinned (OpenSpec.ofChange fnExactWholeIslandsWrong)

/-- 'laws.FnExactHigherByStep': WHATEVER THE INPUT: true; the input reads as it did. -/
def fnExactHigherByStepSpec : ChangeSpec := { name := "fnExactHigherByStep", fn := fun _ => fun
  | [d] => { results := [.lit (.bool true)], args := [d] }
  | _ => none }
def fnExactHigherByStepRow : OpenClaim := { program := "ytdlknbdgbmjkpaa", sum := "8fb0aa98d0c749107da69676437990a2b6d41c767bd39cda88ba6d2698ecd52a", func := "loop.example/g01351/laws.FnExactHigherByStep", spec := "fnExactHigherByStep", unfollowed := true, recurses := true, apart := false }
def FnExactHigherByStepSaid : Prop := fnExactHigherByStepRow.holds Try.pinned (OpenSpec.ofChange fnExactHigherByStepSpec)

/-- ITS FALSE NEIGHBOUR: 'it returns false'. Refute it at one input. -/
def fnExactHigherByStepWrong : ChangeSpec := { name := "fnExactHigherByStep", fn := fun _ => fun
  | [d] => { results := [.lit (.bool false)], args := [d] }
  | _ => none }
def FnExactHigherByStepWrongFalsely : Prop := fnExactHigherByStepRow.holds Try.pinned (OpenSpec.ofChange fnExactHigherByStepWrong)

/-- 'laws.FnExactTowerByTwoSights': WHATEVER THE INPUT: true; the input reads as it did. -/
def fnExactTowerByTwoSightsSpec : ChangeSpec := { name := "fnExactTowerByTwoSights", fn := fun _ => fun
  | [d1, d2, d3] => { results := [.lit (.bool true)], args := [d1, d2, d3] }
  | _ => none }
def fnExactTowerByTwoSightsRow : OpenClaim := { program := "ytdlknbdgbmjkpaa", sum := "8fb0aa98d0c749107da69676437990a2b6d41c767bd39cda88ba6d2698ecd52a", func := "loop.example/g01351/laws.FnExactTowerByTwoSights", spec := "fnExactTowerByTwoSights", unfollowed := true, recurses := true, apart := false }
def FnExactTowerByTwoSightsSaid : Prop := fnExactTowerByTwoSightsRow.holds Try.pinned (OpenSpec.ofChange fnExactTowerByTwoSightsSpec)

/-- ITS FALSE NEIGHBOUR: 'it returns false'. Refute it at one input. -/
def fnExactTowerByTwoSightsWrong : ChangeSpec := { name := "fnExactTowerByTwoSights", fn := fun _ => fun
  | [d1, d2, d3] => { results := [.lit (.bool false)], args := [d1, d2, d3] }
  | _ => none }
def FnExactTowerByTwoSightsWrongFalsely : Prop := fnExactTowerByTwoSightsRow.holds Try.pinned (OpenSpec.ofChange fnExactTowerByTwoSightsWrong)

/-- 'laws.FnExactDistanceByTwoSights': WHATEVER THE INPUT: true; the input reads as it did. -/
def fnExactDistanceByTwoSightsSpec : ChangeSpec := { name := "fnExactDistanceByTwoSights", fn := fun _ => fun
  | [d1, d2, d3] => { results := [.lit (.bool true)], args := [d1, d2, d3] }
  | _ => none }
def fnExactDistanceByTwoSightsRow : OpenClaim := { program := "ytdlknbdgbmjkpaa", sum := "8fb0aa98d0c749107da69676437990a2b6d41c767bd39cda88ba6d2698ecd52a", func := "loop.example/g01351/laws.FnExactDistanceByTwoSights", spec := "fnExactDistanceByTwoSights", unfollowed := true, recurses := true, apart := false }
def FnExactDistanceByTwoSightsSaid : Prop := fnExactDistanceByTwoSightsRow.holds Try.pinned (OpenSpec.ofChange fnExactDistanceByTwoSightsSpec)

/-- ITS FALSE NEIGHBOUR: 'it returns false'. Refute it at one input. -/
def fnExactDistanceByTwoSightsWrong : ChangeSpec := { name := "fnExactDistanceByTwoSights", fn := fun _ => fun
  | [d1, d2, d3] => { results := [.lit (.bool false)], args := [d1, d2, d3] }
  | _ => none }
def FnExactDistanceByTwoSightsWrongFalsely : Prop := fnExactDistanceByTwoSightsRow.holds Try.pinned (OpenSpec.ofChange fnExactDistanceByTwoSightsWrong)

/-- 'laws.FnExactTimesIsland': WHATEVER THE INPUT: true; the input reads as it did. -/
def fnExactTimesIslandSpec : ChangeSpec := { name := "fnExactTimesIsland", fn := fun _ => fun
  | [d1, d2] => { results := [.lit (.bool true)], args := [d1, d2] }
  | _ => none }
def fnExactTimesIslandRow : OpenClaim := { program := "ytdlknbdgbmjkpaa", sum := "8fb0aa98d0c749107da69676437990a2b6d41c767bd39cda88ba6d2698ecd52a", func := "loop.example/g01351/laws.FnExactTimesIsland", spec := "fnExactTimesIsland", apart := false }
def FnExactTimesIslandSaid : Prop := fnExactTimesIslandRow.holds Try.pinned (OpenSpec.ofChange fnExactTimesIslandSpec)

/-- ITS FALSE NEIGHBOUR: 'it returns false'. Refute it at one input. -/
def fnExactTimesIslandWrong : ChangeSpec := { name := "fnExactTimesIsland", fn := fun _ => fun
  | [d1, d2] => { results := [.lit (.bool false)], args := [d1, d2] }
  | _ => none }
def FnExactTimesIslandWrongFalsely : Prop := fnExactTimesIslandRow.holds Try.pinned (OpenSpec.ofChange fnExactTimesIslandWrong)

/- THE SECOND FORM. 'bulk': how many values and letters a reading holds, each counted each time it is reached (what is shared counts as often as it is met; a slice's spare places count too). A statement '..UptoSaid' is the law's where the arguments, and the package variables that the reading takes, are together of bulk at most 1048576: NARROWER than '..Said'. Prove '..Said' where nothing that the law and all that it calls make is longer than what came in: it says more and counts as full. Else prove '..UptoSaid'. A law counts once. -/
mutual
def uptoBulk {H : Type} : DataW H → Nat
  | .lit (.string bytes) => bytes.length + 1
  | .lit _ => 1
  | .nil => 1
  | .ptr d => uptoBulk d + 1
  | .slice elems spare => uptoBulkAll elems + uptoBulkAll spare + 1
  | .agg parts => uptoBulkAll parts + 1
  | .iface _ d => uptoBulk d + 1
  | .map entries => uptoBulkEntries entries + 1
  | .held _ => 1
def uptoBulkAll {H : Type} : List (DataW H) → Nat
  | [] => 0
  | d :: r => uptoBulk d + uptoBulkAll r
def uptoBulkEntries {H : Type} : List (Lit × DataW H) → Nat
  | [] => 0
  | x :: r => uptoBulkEntry x + uptoBulkEntries r
def uptoBulkEntry {H : Type} : Lit × DataW H → Nat
  | (.string bytes, d) => bytes.length + uptoBulk d + 1
  | (_, d) => uptoBulk d + 1
 end
def uptoSmall : (H : Type) → List (DataW H) → Bool := fun _ ds => decide (uptoBulkAll ds ≤ 1048576)
def OpenSpec.upto (s : _root_.Go.ChangeSpec) : _root_.Go.OpenSpec := { _root_.Go.OpenSpec.ofChange s with cond := some uptoSmall }

/-- 'laws.FnExactTowerByShadow', WHERE WHAT IT READS IS OF BULK AT MOST 1048576: true; the input reads as it did. -/
def fnExactTowerByShadowUptoRow : OpenClaim := { program := "ytdlknbdgbmjkpaa", sum := "8fb0aa98d0c749107da69676437990a2b6d41c767bd39cda88ba6d2698ecd52a", func := "loop.example/g01351/laws.FnExactTowerByShadow", spec := "fnExactTowerByShadow", unfollowed := true, recurses := true, apart := false, narrowed := true }
def FnExactTowerByShadowUptoSaid : Prop := fnExactTowerByShadowUptoRow.holds Try.pinned (OpenSpec.upto fnExactTowerByShadowSpec)

/-- 'laws.FnExactTowerByMirror', WHERE WHAT IT READS IS OF BULK AT MOST 1048576: true; the input reads as it did. -/
def fnExactTowerByMirrorUptoRow : OpenClaim := { program := "ytdlknbdgbmjkpaa", sum := "8fb0aa98d0c749107da69676437990a2b6d41c767bd39cda88ba6d2698ecd52a", func := "loop.example/g01351/laws.FnExactTowerByMirror", spec := "fnExactTowerByMirror", unfollowed := true, recurses := true, apart := false, narrowed := true }
def FnExactTowerByMirrorUptoSaid : Prop := fnExactTowerByMirrorUptoRow.holds Try.pinned (OpenSpec.upto fnExactTowerByMirrorSpec)

/-- 'laws.FnExactTreeByStaff', WHERE WHAT IT READS IS OF BULK AT MOST 1048576: true; the input reads as it did. -/
def fnExactTreeByStaffUptoRow : OpenClaim := { program := "ytdlknbdgbmjkpaa", sum := "8fb0aa98d0c749107da69676437990a2b6d41c767bd39cda88ba6d2698ecd52a", func := "loop.example/g01351/laws.FnExactTreeByStaff", spec := "fnExactTreeByStaff", unfollowed := true, recurses := true, apart := false, narrowed := true }
def FnExactTreeByStaffUptoSaid : Prop := fnExactTreeByStaffUptoRow.holds Try.pinned (OpenSpec.upto fnExactTreeByStaffSpec)

/-- 'laws.FnExactStaffForTree', WHERE WHAT IT READS IS OF BULK AT MOST 1048576: true; the input reads as it did. -/
def fnExactStaffForTreeUptoRow : OpenClaim := { program := "ytdlknbdgbmjkpaa", sum := "8fb0aa98d0c749107da69676437990a2b6d41c767bd39cda88ba6d2698ecd52a", func := "loop.example/g01351/laws.FnExactStaffForTree", spec := "fnExactStaffForTree", unfollowed := true, recurses := true, apart := false, narrowed := true }
def FnExactStaffForTreeUptoSaid : Prop := fnExactStaffForTreeUptoRow.holds Try.pinned (OpenSpec.upto fnExactStaffForTreeSpec)

/-- 'laws.FnExactWellDepth', WHERE WHAT IT READS IS OF BULK AT MOST 1048576: true; the input reads as it did. -/
def fnExactWellDepthUptoRow : OpenClaim := { program := "ytdlknbdgbmjkpaa", sum := "8fb0aa98d0c749107da69676437990a2b6d41c767bd39cda88ba6d2698ecd52a", func := "loop.example/g01351/laws.FnExactWellDepth", spec := "fnExactWellDepth", unfollowed := true, recurses := true, apart := false, narrowed := true }
def FnExactWellDepthUptoSaid : Prop := fnExactWellDepthUptoRow.holds Try.pinned (OpenSpec.upto fnExactWellDepthSpec)

/-- 'laws.FnExactRiverWide', WHERE WHAT IT READS IS OF BULK AT MOST 1048576: true; the input reads as it did. -/
def fnExactRiverWideUptoRow : OpenClaim := { program := "ytdlknbdgbmjkpaa", sum := "8fb0aa98d0c749107da69676437990a2b6d41c767bd39cda88ba6d2698ecd52a", func := "loop.example/g01351/laws.FnExactRiverWide", spec := "fnExactRiverWide", unfollowed := true, recurses := true, apart := false, narrowed := true }
def FnExactRiverWideUptoSaid : Prop := fnExactRiverWideUptoRow.holds Try.pinned (OpenSpec.upto fnExactRiverWideSpec)

/-- 'laws.FnExactIsIsland', WHERE WHAT IT READS IS OF BULK AT MOST 1048576: true; the input reads as it did. -/
def fnExactIsIslandUptoRow : OpenClaim := { program := "ytdlknbdgbmjkpaa", sum := "8fb0aa98d0c749107da69676437990a2b6d41c767bd39cda88ba6d2698ecd52a", func := "loop.example/g01351/laws.FnExactIsIsland", spec := "fnExactIsIsland", apart := false, narrowed := true }
def FnExactIsIslandUptoSaid : Prop := fnExactIsIslandUptoRow.holds Try.pinned (OpenSpec.upto fnExactIsIslandSpec)

/-- 'laws.FnExactIslandHeight', WHERE WHAT IT READS IS OF BULK AT MOST 1048576: true; the input reads as it did. -/
def fnExactIslandHeightUptoRow : OpenClaim := { program := "ytdlknbdgbmjkpaa", sum := "8fb0aa98d0c749107da69676437990a2b6d41c767bd39cda88ba6d2698ecd52a", func := "loop.example/g01351/laws.FnExactIslandHeight", spec := "fnExactIslandHeight", unfollowed := true, recurses := true, apart := false, narrowed := true }
def FnExactIslandHeightUptoSaid : Prop := fnExactIslandHeightUptoRow.holds Try.pinned (OpenSpec.upto fnExactIslandHeightSpec)

/-- 'laws.FnExactIslandAway', WHERE WHAT IT READS IS OF BULK AT MOST 1048576: true; the input reads as it did. -/
def fnExactIslandAwayUptoRow : OpenClaim := { program := "ytdlknbdgbmjkpaa", sum := "8fb0aa98d0c749107da69676437990a2b6d41c767bd39cda88ba6d2698ecd52a", func := "loop.example/g01351/laws.FnExactIslandAway", spec := "fnExactIslandAway", unfollowed := true, recurses := true, apart := false, narrowed := true }
def FnExactIslandAwayUptoSaid : Prop := fnExactIslandAwayUptoRow.holds Try.pinned (OpenSpec.upto fnExactIslandAwaySpec)

/-- 'laws.FnExactSecondStep', WHERE WHAT IT READS IS OF BULK AT MOST 1048576: true; the input reads as it did. -/
def fnExactSecondStepUptoRow : OpenClaim := { program := "ytdlknbdgbmjkpaa", sum := "8fb0aa98d0c749107da69676437990a2b6d41c767bd39cda88ba6d2698ecd52a", func := "loop.example/g01351/laws.FnExactSecondStep", spec := "fnExactSecondStep", unfollowed := true, recurses := true, apart := false, narrowed := true }
def FnExactSecondStepUptoSaid : Prop := fnExactSecondStepUptoRow.holds Try.pinned (OpenSpec.upto fnExactSecondStepSpec)

/-- 'laws.FnExactStepsForIsland', WHERE WHAT IT READS IS OF BULK AT MOST 1048576: true; the input reads as it did. -/
def fnExactStepsForIslandUptoRow : OpenClaim := { program := "ytdlknbdgbmjkpaa", sum := "8fb0aa98d0c749107da69676437990a2b6d41c767bd39cda88ba6d2698ecd52a", func := "loop.example/g01351/laws.FnExactStepsForIsland", spec := "fnExactStepsForIsland", unfollowed := true, recurses := true, apart := false, narrowed := true }
def FnExactStepsForIslandUptoSaid : Prop := fnExactStepsForIslandUptoRow.holds Try.pinned (OpenSpec.upto fnExactStepsForIslandSpec)

/-- 'laws.FnExactWholeIslands', WHERE WHAT IT READS IS OF BULK AT MOST 1048576: true; the input reads as it did. -/
def fnExactWholeIslandsUptoRow : OpenClaim := { program := "ytdlknbdgbmjkpaa", sum := "8fb0aa98d0c749107da69676437990a2b6d41c767bd39cda88ba6d2698ecd52a", func := "loop.example/g01351/laws.FnExactWholeIslands", spec := "fnExactWholeIslands", unfollowed := true, recurses := true, apart := false, narrowed := true }
def FnExactWholeIslandsUptoSaid : Prop := fnExactWholeIslandsUptoRow.holds Try.pinned (OpenSpec.upto fnExactWholeIslandsSpec)

/-- 'laws.FnExactHigherByStep', WHERE WHAT IT READS IS OF BULK AT MOST 1048576: true; the input reads as it did. -/
def fnExactHigherByStepUptoRow : OpenClaim := { program := "ytdlknbdgbmjkpaa", sum := "8fb0aa98d0c749107da69676437990a2b6d41c767bd39cda88ba6d2698ecd52a", func := "loop.example/g01351/laws.FnExactHigherByStep", spec := "fnExactHigherByStep", unfollowed := true, recurses := true, apart := false, narrowed := true }
def FnExactHigherByStepUptoSaid : Prop := fnExactHigherByStepUptoRow.holds Try.pinned (OpenSpec.upto fnExactHigherByStepSpec)

/-- 'laws.FnExactTowerByTwoSights', WHERE WHAT IT READS IS OF BULK AT MOST 1048576: true; the input reads as it did. -/
def fnExactTowerByTwoSightsUptoRow : OpenClaim := { program := "ytdlknbdgbmjkpaa", sum := "8fb0aa98d0c749107da69676437990a2b6d41c767bd39cda88ba6d2698ecd52a", func := "loop.example/g01351/laws.FnExactTowerByTwoSights", spec := "fnExactTowerByTwoSights", unfollowed := true, recurses := true, apart := false, narrowed := true }
def FnExactTowerByTwoSightsUptoSaid : Prop := fnExactTowerByTwoSightsUptoRow.holds Try.pinned (OpenSpec.upto fnExactTowerByTwoSightsSpec)

/-- 'laws.FnExactDistanceByTwoSights', WHERE WHAT IT READS IS OF BULK AT MOST 1048576: true; the input reads as it did. -/
def fnExactDistanceByTwoSightsUptoRow : OpenClaim := { program := "ytdlknbdgbmjkpaa", sum := "8fb0aa98d0c749107da69676437990a2b6d41c767bd39cda88ba6d2698ecd52a", func := "loop.example/g01351/laws.FnExactDistanceByTwoSights", spec := "fnExactDistanceByTwoSights", unfollowed := true, recurses := true, apart := false, narrowed := true }
def FnExactDistanceByTwoSightsUptoSaid : Prop := fnExactDistanceByTwoSightsUptoRow.holds Try.pinned (OpenSpec.upto fnExactDistanceByTwoSightsSpec)

/-- 'laws.FnExactTimesIsland', WHERE WHAT IT READS IS OF BULK AT MOST 1048576: true; the input reads as it did. -/
def fnExactTimesIslandUptoRow : OpenClaim := { program := "ytdlknbdgbmjkpaa", sum := "8fb0aa98d0c749107da69676437990a2b6d41c767bd39cda88ba6d2698ecd52a", func := "loop.example/g01351/laws.FnExactTimesIsland", spec := "fnExactTimesIsland", apart := false, narrowed := true }
def FnExactTimesIslandUptoSaid : Prop := fnExactTimesIslandUptoRow.holds Try.pinned (OpenSpec.upto fnExactTimesIslandSpec)

end Rows
end Go.Proofs.Ytdlknbdgbmjkpaa

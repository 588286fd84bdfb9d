/-
  No cell of these rows narrows 'for every input' (looked for: loops, veiled, ifaces, maps, wideKeys, modest, calm, conditions, laid).
  DERIVED. THE GIVEN ROWS OF THIS SEAT. 18 by the template 'for every input the law returns true; each argument reads behind the call as it read before'; 0 by the template 'total and deterministic' (their statements: YtppgcaennhghoaaTotals.lean).
  GIVEN WITH THE SEED: the statements are not yours to turn. If you find one false, say at which input.
  Laid BY PROGRAM, IN A SANDBOX (cutbox-rows.mjs): the forced cells as the released guide's own fill.sh prints them over the translation 5547ef7b38bcab05… (all of the seat's roots in one cut). By AI agents, Wed Nov 11 2026. No macro, syntax, notation, axiom, sorry.
-/
import Derived.Test.YtppgcaennhghoaaChecked
import GoSem.Claim
import GoSem.ClaimJoined
import GoSem.ClaimMapViews
import Derived.JoinedTies
import Derived.KernelRfl
namespace Go.Proofs.Ytppgcaennhghoaa
/- THE CELL 'sum', in the pinned program and in every row, IS THE sha256 OF THE DUMP (.gsa) THAT YtppgcaennhghoaaProg.lean LOADS. Nothing in Lean hashes anything: it is a label: what it is worth is what the hold of that sum in a sandbox is worth. -/
noncomputable def Try.pinned : Pinned := { name := "ytppgcaennhghoaa", sum := "5547ef7b38bcab05fd0e2e763814947c1e76cb232cbe7f58d137304eaba6da99", checked := Try.checked }
namespace Rows
def none {H : Type} : Left H := { results := [], args := [] }

/-- 'laws.FnExactIsSpot': WHATEVER THE INPUT: true; the input reads as it did. -/
def fnExactIsSpotSpec : ChangeSpec := { name := "fnExactIsSpot", fn := fun _ => fun
  | [d] => { results := [.lit (.bool true)], args := [d] }
  | _ => none }
def fnExactIsSpotRow : OpenClaim := { program := "ytppgcaennhghoaa", sum := "5547ef7b38bcab05fd0e2e763814947c1e76cb232cbe7f58d137304eaba6da99", func := "loop.example/g01351/laws.FnExactIsSpot", spec := "fnExactIsSpot", apart := false }
def FnExactIsSpotSaid : Prop := fnExactIsSpotRow.holds Try.pinned (OpenSpec.ofChange fnExactIsSpotSpec)

/-- ITS FALSE NEIGHBOUR: 'it returns false'. Refute it at one input. -/
def fnExactIsSpotWrong : ChangeSpec := { name := "fnExactIsSpot", fn := fun _ => fun
  | [d] => { results := [.lit (.bool false)], args := [d] }
  | _ => none }
def FnExactIsSpotWrongFalsely : Prop := fnExactIsSpotRow.holds Try.pinned (OpenSpec.ofChange fnExactIsSpotWrong)

/-- 'laws.FnExactSquareStraight': WHATEVER THE INPUT: true; the input reads as it did. -/
def fnExactSquareStraightSpec : ChangeSpec := { name := "fnExactSquareStraight", fn := fun _ => fun
  | [d1, d2] => { results := [.lit (.bool true)], args := [d1, d2] }
  | _ => none }
def fnExactSquareStraightRow : OpenClaim := { program := "ytppgcaennhghoaa", sum := "5547ef7b38bcab05fd0e2e763814947c1e76cb232cbe7f58d137304eaba6da99", func := "loop.example/g01351/laws.FnExactSquareStraight", spec := "fnExactSquareStraight", apart := false }
def FnExactSquareStraightSaid : Prop := fnExactSquareStraightRow.holds Try.pinned (OpenSpec.ofChange fnExactSquareStraightSpec)

/-- ITS FALSE NEIGHBOUR: 'it returns false'. Refute it at one input. -/
def fnExactSquareStraightWrong : ChangeSpec := { name := "fnExactSquareStraight", fn := fun _ => fun
  | [d1, d2] => { results := [.lit (.bool false)], args := [d1, d2] }
  | _ => none }
def FnExactSquareStraightWrongFalsely : Prop := fnExactSquareStraightRow.holds Try.pinned (OpenSpec.ofChange fnExactSquareStraightWrong)

/-- 'laws.FnExactSquareByMirror': WHATEVER THE INPUT: true; the input reads as it did. -/
def fnExactSquareByMirrorSpec : ChangeSpec := { name := "fnExactSquareByMirror", fn := fun _ => fun
  | [d1, d2] => { results := [.lit (.bool true)], args := [d1, d2] }
  | _ => none }
def fnExactSquareByMirrorRow : OpenClaim := { program := "ytppgcaennhghoaa", sum := "5547ef7b38bcab05fd0e2e763814947c1e76cb232cbe7f58d137304eaba6da99", func := "loop.example/g01351/laws.FnExactSquareByMirror", spec := "fnExactSquareByMirror", apart := false }
def FnExactSquareByMirrorSaid : Prop := fnExactSquareByMirrorRow.holds Try.pinned (OpenSpec.ofChange fnExactSquareByMirrorSpec)

/-- ITS FALSE NEIGHBOUR: 'it returns false'. Refute it at one input. -/
def fnExactSquareByMirrorWrong : ChangeSpec := { name := "fnExactSquareByMirror", fn := fun _ => fun
  | [d1, d2] => { results := [.lit (.bool false)], args := [d1, d2] }
  | _ => none }
def FnExactSquareByMirrorWrongFalsely : Prop := fnExactSquareByMirrorRow.holds Try.pinned (OpenSpec.ofChange fnExactSquareByMirrorWrong)

/-- 'laws.FnExactTouchOf': WHATEVER THE INPUT: true; the input reads as it did. -/
def fnExactTouchOfSpec : ChangeSpec := { name := "fnExactTouchOf", fn := fun _ => fun
  | [d1, d2] => { results := [.lit (.bool true)], args := [d1, d2] }
  | _ => none }
def fnExactTouchOfRow : OpenClaim := { program := "ytppgcaennhghoaa", sum := "5547ef7b38bcab05fd0e2e763814947c1e76cb232cbe7f58d137304eaba6da99", func := "loop.example/g01351/laws.FnExactTouchOf", spec := "fnExactTouchOf", unfollowed := true, recurses := true, leaving := true, apart := false }
def FnExactTouchOfSaid : Prop := fnExactTouchOfRow.holds Try.pinned (OpenSpec.ofChange fnExactTouchOfSpec)

/-- ITS FALSE NEIGHBOUR: 'it returns false'. Refute it at one input. -/
def fnExactTouchOfWrong : ChangeSpec := { name := "fnExactTouchOf", fn := fun _ => fun
  | [d1, d2] => { results := [.lit (.bool false)], args := [d1, d2] }
  | _ => none }
def FnExactTouchOfWrongFalsely : Prop := fnExactTouchOfRow.holds Try.pinned (OpenSpec.ofChange fnExactTouchOfWrong)

/-- 'laws.FnExactIsWholeTouch': WHATEVER THE INPUT: true; the input reads as it did. -/
def fnExactIsWholeTouchSpec : ChangeSpec := { name := "fnExactIsWholeTouch", fn := fun _ => fun
  | [d1, d2] => { results := [.lit (.bool true)], args := [d1, d2] }
  | _ => none }
def fnExactIsWholeTouchRow : OpenClaim := { program := "ytppgcaennhghoaa", sum := "5547ef7b38bcab05fd0e2e763814947c1e76cb232cbe7f58d137304eaba6da99", func := "loop.example/g01351/laws.FnExactIsWholeTouch", spec := "fnExactIsWholeTouch", unfollowed := true, recurses := true, leaving := true, apart := false }
def FnExactIsWholeTouchSaid : Prop := fnExactIsWholeTouchRow.holds Try.pinned (OpenSpec.ofChange fnExactIsWholeTouchSpec)

/-- ITS FALSE NEIGHBOUR: 'it returns false'. Refute it at one input. -/
def fnExactIsWholeTouchWrong : ChangeSpec := { name := "fnExactIsWholeTouch", fn := fun _ => fun
  | [d1, d2] => { results := [.lit (.bool false)], args := [d1, d2] }
  | _ => none }
def FnExactIsWholeTouchWrongFalsely : Prop := fnExactIsWholeTouchRow.holds Try.pinned (OpenSpec.ofChange fnExactIsWholeTouchWrong)

/-- 'laws.FnExactHeightForTouch': WHATEVER THE INPUT: true; the input reads as it did. -/
def fnExactHeightForTouchSpec : ChangeSpec := { name := "fnExactHeightForTouch", fn := fun _ => fun
  | [d1, d2, d3] => { results := [.lit (.bool true)], args := [d1, d2, d3] }
  | _ => none }
def fnExactHeightForTouchRow : OpenClaim := { program := "ytppgcaennhghoaa", sum := "5547ef7b38bcab05fd0e2e763814947c1e76cb232cbe7f58d137304eaba6da99", func := "loop.example/g01351/laws.FnExactHeightForTouch", spec := "fnExactHeightForTouch", apart := false }
def FnExactHeightForTouchSaid : Prop := fnExactHeightForTouchRow.holds Try.pinned (OpenSpec.ofChange fnExactHeightForTouchSpec)

/-- ITS FALSE NEIGHBOUR: 'it returns false'. Refute it at one input. -/
def fnExactHeightForTouchWrong : ChangeSpec := { name := "fnExactHeightForTouch", fn := fun _ => fun
  | [d1, d2, d3] => { results := [.lit (.bool false)], args := [d1, d2, d3] }
  | _ => none }
def FnExactHeightForTouchWrongFalsely : Prop := fnExactHeightForTouchRow.holds Try.pinned (OpenSpec.ofChange fnExactHeightForTouchWrong)

/-- 'laws.FnExactSquareByCorner': WHATEVER THE INPUT: true; the input reads as it did. -/
def fnExactSquareByCornerSpec : ChangeSpec := { name := "fnExactSquareByCorner", fn := fun _ => fun
  | [d1, d2] => { results := [.lit (.bool true)], args := [d1, d2] }
  | _ => none }
def fnExactSquareByCornerRow : OpenClaim := { program := "ytppgcaennhghoaa", sum := "5547ef7b38bcab05fd0e2e763814947c1e76cb232cbe7f58d137304eaba6da99", func := "loop.example/g01351/laws.FnExactSquareByCorner", spec := "fnExactSquareByCorner", apart := false }
def FnExactSquareByCornerSaid : Prop := fnExactSquareByCornerRow.holds Try.pinned (OpenSpec.ofChange fnExactSquareByCornerSpec)

/-- ITS FALSE NEIGHBOUR: 'it returns false'. Refute it at one input. -/
def fnExactSquareByCornerWrong : ChangeSpec := { name := "fnExactSquareByCorner", fn := fun _ => fun
  | [d1, d2] => { results := [.lit (.bool false)], args := [d1, d2] }
  | _ => none }
def FnExactSquareByCornerWrongFalsely : Prop := fnExactSquareByCornerRow.holds Try.pinned (OpenSpec.ofChange fnExactSquareByCornerWrong)

/-- 'laws.FnExactOrderByCorner': WHATEVER THE INPUT: true; the input reads as it did. -/
def fnExactOrderByCornerSpec : ChangeSpec := { name := "fnExactOrderByCorner", fn := fun _ => fun
  | [d1, d2] => { results := [.lit (.bool true)], args := [d1, d2] }
  | _ => none }
def fnExactOrderByCornerRow : OpenClaim := { program := "ytppgcaennhghoaa", sum := "5547ef7b38bcab05fd0e2e763814947c1e76cb232cbe7f58d137304eaba6da99", func := "loop.example/g01351/laws.FnExactOrderByCorner", spec := "fnExactOrderByCorner", apart := false }
def FnExactOrderByCornerSaid : Prop := fnExactOrderByCornerRow.holds Try.pinned (OpenSpec.ofChange fnExactOrderByCornerSpec)

/-- ITS FALSE NEIGHBOUR: 'it returns false'. Refute it at one input. -/
def fnExactOrderByCornerWrong : ChangeSpec := { name := "fnExactOrderByCorner", fn := fun _ => fun
  | [d1, d2] => { results := [.lit (.bool false)], args := [d1, d2] }
  | _ => none }
def FnExactOrderByCornerWrongFalsely : Prop := fnExactOrderByCornerRow.holds Try.pinned (OpenSpec.ofChange fnExactOrderByCornerWrong)

/-- 'laws.FnExactTouchesByCorner': WHATEVER THE INPUT: true; the input reads as it did. -/
def fnExactTouchesByCornerSpec : ChangeSpec := { name := "fnExactTouchesByCorner", fn := fun _ => fun
  | [d1, d2] => { results := [.lit (.bool true)], args := [d1, d2] }
  | _ => none }
def fnExactTouchesByCornerRow : OpenClaim := { program := "ytppgcaennhghoaa", sum := "5547ef7b38bcab05fd0e2e763814947c1e76cb232cbe7f58d137304eaba6da99", func := "loop.example/g01351/laws.FnExactTouchesByCorner", spec := "fnExactTouchesByCorner", apart := false }
def FnExactTouchesByCornerSaid : Prop := fnExactTouchesByCornerRow.holds Try.pinned (OpenSpec.ofChange fnExactTouchesByCornerSpec)

/-- ITS FALSE NEIGHBOUR: 'it returns false'. Refute it at one input. -/
def fnExactTouchesByCornerWrong : ChangeSpec := { name := "fnExactTouchesByCorner", fn := fun _ => fun
  | [d1, d2] => { results := [.lit (.bool false)], args := [d1, d2] }
  | _ => none }
def FnExactTouchesByCornerWrongFalsely : Prop := fnExactTouchesByCornerRow.holds Try.pinned (OpenSpec.ofChange fnExactTouchesByCornerWrong)

/-- 'laws.FnExactRiseInCorridor': WHATEVER THE INPUT: true; the input reads as it did. -/
def fnExactRiseInCorridorSpec : ChangeSpec := { name := "fnExactRiseInCorridor", fn := fun _ => fun
  | [d1, d2, d3, d4, d5] => { results := [.lit (.bool true)], args := [d1, d2, d3, d4, d5] }
  | _ => none }
def fnExactRiseInCorridorRow : OpenClaim := { program := "ytppgcaennhghoaa", sum := "5547ef7b38bcab05fd0e2e763814947c1e76cb232cbe7f58d137304eaba6da99", func := "loop.example/g01351/laws.FnExactRiseInCorridor", spec := "fnExactRiseInCorridor", apart := false }
def FnExactRiseInCorridorSaid : Prop := fnExactRiseInCorridorRow.holds Try.pinned (OpenSpec.ofChange fnExactRiseInCorridorSpec)

/-- ITS FALSE NEIGHBOUR: 'it returns false'. Refute it at one input. -/
def fnExactRiseInCorridorWrong : ChangeSpec := { name := "fnExactRiseInCorridor", fn := fun _ => fun
  | [d1, d2, d3, d4, d5] => { results := [.lit (.bool false)], args := [d1, d2, d3, d4, d5] }
  | _ => none }
def FnExactRiseInCorridorWrongFalsely : Prop := fnExactRiseInCorridorRow.holds Try.pinned (OpenSpec.ofChange fnExactRiseInCorridorWrong)

/-- 'laws.FnExactSquareInCorridor': WHATEVER THE INPUT: true; the input reads as it did. -/
def fnExactSquareInCorridorSpec : ChangeSpec := { name := "fnExactSquareInCorridor", fn := fun _ => fun
  | [d1, d2, d3, d4, d5] => { results := [.lit (.bool true)], args := [d1, d2, d3, d4, d5] }
  | _ => none }
def fnExactSquareInCorridorRow : OpenClaim := { program := "ytppgcaennhghoaa", sum := "5547ef7b38bcab05fd0e2e763814947c1e76cb232cbe7f58d137304eaba6da99", func := "loop.example/g01351/laws.FnExactSquareInCorridor", spec := "fnExactSquareInCorridor", apart := false }
def FnExactSquareInCorridorSaid : Prop := fnExactSquareInCorridorRow.holds Try.pinned (OpenSpec.ofChange fnExactSquareInCorridorSpec)

/-- ITS FALSE NEIGHBOUR: 'it returns false'. Refute it at one input. -/
def fnExactSquareInCorridorWrong : ChangeSpec := { name := "fnExactSquareInCorridor", fn := fun _ => fun
  | [d1, d2, d3, d4, d5] => { results := [.lit (.bool false)], args := [d1, d2, d3, d4, d5] }
  | _ => none }
def FnExactSquareInCorridorWrongFalsely : Prop := fnExactSquareInCorridorRow.holds Try.pinned (OpenSpec.ofChange fnExactSquareInCorridorWrong)

/-- 'laws.FnExactTouchesInCorridor': WHATEVER THE INPUT: true; the input reads as it did. -/
def fnExactTouchesInCorridorSpec : ChangeSpec := { name := "fnExactTouchesInCorridor", fn := fun _ => fun
  | [d1, d2, d3, d4, d5] => { results := [.lit (.bool true)], args := [d1, d2, d3, d4, d5] }
  | _ => none }
def fnExactTouchesInCorridorRow : OpenClaim := { program := "ytppgcaennhghoaa", sum := "5547ef7b38bcab05fd0e2e763814947c1e76cb232cbe7f58d137304eaba6da99", func := "loop.example/g01351/laws.FnExactTouchesInCorridor", spec := "fnExactTouchesInCorridor", unfollowed := true, recurses := true, leaving := true, apart := false }
def FnExactTouchesInCorridorSaid : Prop := fnExactTouchesInCorridorRow.holds Try.pinned (OpenSpec.ofChange fnExactTouchesInCorridorSpec)

/-- ITS FALSE NEIGHBOUR: 'it returns false'. Refute it at one input. -/
def fnExactTouchesInCorridorWrong : ChangeSpec := { name := "fnExactTouchesInCorridor", fn := fun _ => fun
  | [d1, d2, d3, d4, d5] => { results := [.lit (.bool false)], args := [d1, d2, d3, d4, d5] }
  | _ => none }
def FnExactTouchesInCorridorWrongFalsely : Prop := fnExactTouchesInCorridorRow.holds Try.pinned (OpenSpec.ofChange fnExactTouchesInCorridorWrong)

/-- 'laws.FnExactBestInCorridor': WHATEVER THE INPUT: true; the input reads as it did. -/
def fnExactBestInCorridorSpec : ChangeSpec := { name := "fnExactBestInCorridor", fn := fun _ => fun
  | [d1, d2, d3, d4] => { results := [.lit (.bool true)], args := [d1, d2, d3, d4] }
  | _ => none }
def fnExactBestInCorridorRow : OpenClaim := { program := "ytppgcaennhghoaa", sum := "5547ef7b38bcab05fd0e2e763814947c1e76cb232cbe7f58d137304eaba6da99", func := "loop.example/g01351/laws.FnExactBestInCorridor", spec := "fnExactBestInCorridor", apart := false }
def FnExactBestInCorridorSaid : Prop := fnExactBestInCorridorRow.holds Try.pinned (OpenSpec.ofChange fnExactBestInCorridorSpec)

/-- ITS FALSE NEIGHBOUR: 'it returns false'. Refute it at one input. -/
def fnExactBestInCorridorWrong : ChangeSpec := { name := "fnExactBestInCorridor", fn := fun _ => fun
  | [d1, d2, d3, d4] => { results := [.lit (.bool false)], args := [d1, d2, d3, d4] }
  | _ => none }
def FnExactBestInCorridorWrongFalsely : Prop := fnExactBestInCorridorRow.holds Try.pinned (OpenSpec.ofChange fnExactBestInCorridorWrong)

/-- 'laws.FnExactWaysWithin': WHATEVER THE INPUT: true; the input reads as it did. -/
def fnExactWaysWithinSpec : ChangeSpec := { name := "fnExactWaysWithin", fn := fun _ => fun
  | [d1, d2, d3, d4] => { results := [.lit (.bool true)], args := [d1, d2, d3, d4] }
  | _ => none }
def fnExactWaysWithinRow : OpenClaim := { program := "ytppgcaennhghoaa", sum := "5547ef7b38bcab05fd0e2e763814947c1e76cb232cbe7f58d137304eaba6da99", func := "loop.example/g01351/laws.FnExactWaysWithin", spec := "fnExactWaysWithin", apart := false }
def FnExactWaysWithinSaid : Prop := fnExactWaysWithinRow.holds Try.pinned (OpenSpec.ofChange fnExactWaysWithinSpec)

/-- ITS FALSE NEIGHBOUR: 'it returns false'. Refute it at one input. -/
def fnExactWaysWithinWrong : ChangeSpec := { name := "fnExactWaysWithin", fn := fun _ => fun
  | [d1, d2, d3, d4] => { results := [.lit (.bool false)], args := [d1, d2, d3, d4] }
  | _ => none }
def FnExactWaysWithinWrongFalsely : Prop := fnExactWaysWithinRow.holds Try.pinned (OpenSpec.ofChange fnExactWaysWithinWrong)

/-- 'laws.FnExactWholeWays': WHATEVER THE INPUT: true; the input reads as it did. -/
def fnExactWholeWaysSpec : ChangeSpec := { name := "fnExactWholeWays", fn := fun _ => fun
  | [d1, d2, d3] => { results := [.lit (.bool true)], args := [d1, d2, d3] }
  | _ => none }
def fnExactWholeWaysRow : OpenClaim := { program := "ytppgcaennhghoaa", sum := "5547ef7b38bcab05fd0e2e763814947c1e76cb232cbe7f58d137304eaba6da99", func := "loop.example/g01351/laws.FnExactWholeWays", spec := "fnExactWholeWays", apart := false }
def FnExactWholeWaysSaid : Prop := fnExactWholeWaysRow.holds Try.pinned (OpenSpec.ofChange fnExactWholeWaysSpec)

/-- ITS FALSE NEIGHBOUR: 'it returns false'. Refute it at one input. -/
def fnExactWholeWaysWrong : ChangeSpec := { name := "fnExactWholeWays", fn := fun _ => fun
  | [d1, d2, d3] => { results := [.lit (.bool false)], args := [d1, d2, d3] }
  | _ => none }
def FnExactWholeWaysWrongFalsely : Prop := fnExactWholeWaysRow.holds Try.pinned (OpenSpec.ofChange fnExactWholeWaysWrong)

/-- 'laws.FnExactNearestByMirror': WHATEVER THE INPUT: true; the input reads as it did. -/
def fnExactNearestByMirrorSpec : ChangeSpec := { name := "fnExactNearestByMirror", fn := fun _ => fun
  | [d1, d2] => { results := [.lit (.bool true)], args := [d1, d2] }
  | _ => none }
def fnExactNearestByMirrorRow : OpenClaim := { program := "ytppgcaennhghoaa", sum := "5547ef7b38bcab05fd0e2e763814947c1e76cb232cbe7f58d137304eaba6da99", func := "loop.example/g01351/laws.FnExactNearestByMirror", spec := "fnExactNearestByMirror", apart := false }
def FnExactNearestByMirrorSaid : Prop := fnExactNearestByMirrorRow.holds Try.pinned (OpenSpec.ofChange fnExactNearestByMirrorSpec)

/-- ITS FALSE NEIGHBOUR: 'it returns false'. Refute it at one input. -/
def fnExactNearestByMirrorWrong : ChangeSpec := { name := "fnExactNearestByMirror", fn := fun _ => fun
  | [d1, d2] => { results := [.lit (.bool false)], args := [d1, d2] }
  | _ => none }
def FnExactNearestByMirrorWrongFalsely : Prop := fnExactNearestByMirrorRow.holds Try.pinned (OpenSpec.ofChange fnExactNearestByMirrorWrong)

/-- 'laws.FnExactMoveSpot': WHATEVER THE INPUT: true; the input reads as it did. -/
def fnExactMoveSpotSpec : ChangeSpec := { name := "fnExactMoveSpot", fn := fun _ => fun
  | [d1, d2, d3] => { results := [.lit (.bool true)], args := [d1, d2, d3] }
  | _ => none }
def fnExactMoveSpotRow : OpenClaim := { program := "ytppgcaennhghoaa", sum := "5547ef7b38bcab05fd0e2e763814947c1e76cb232cbe7f58d137304eaba6da99", func := "loop.example/g01351/laws.FnExactMoveSpot", spec := "fnExactMoveSpot", apart := false }
def FnExactMoveSpotSaid : Prop := fnExactMoveSpotRow.holds Try.pinned (OpenSpec.ofChange fnExactMoveSpotSpec)

/-- ITS FALSE NEIGHBOUR: 'it returns false'. Refute it at one input. -/
def fnExactMoveSpotWrong : ChangeSpec := { name := "fnExactMoveSpot", fn := fun _ => fun
  | [d1, d2, d3] => { results := [.lit (.bool false)], args := [d1, d2, d3] }
  | _ => none }
def FnExactMoveSpotWrongFalsely : Prop := fnExactMoveSpotRow.holds Try.pinned (OpenSpec.ofChange fnExactMoveSpotWrong)

/-- 'laws.FnExactTurnSpot': WHATEVER THE INPUT: true; the input reads as it did. -/
def fnExactTurnSpotSpec : ChangeSpec := { name := "fnExactTurnSpot", fn := fun _ => fun
  | [d] => { results := [.lit (.bool true)], args := [d] }
  | _ => none }
def fnExactTurnSpotRow : OpenClaim := { program := "ytppgcaennhghoaa", sum := "5547ef7b38bcab05fd0e2e763814947c1e76cb232cbe7f58d137304eaba6da99", func := "loop.example/g01351/laws.FnExactTurnSpot", spec := "fnExactTurnSpot", apart := false }
def FnExactTurnSpotSaid : Prop := fnExactTurnSpotRow.holds Try.pinned (OpenSpec.ofChange fnExactTurnSpotSpec)

/-- ITS FALSE NEIGHBOUR: 'it returns false'. Refute it at one input. -/
def fnExactTurnSpotWrong : ChangeSpec := { name := "fnExactTurnSpot", fn := fun _ => fun
  | [d] => { results := [.lit (.bool false)], args := [d] }
  | _ => none }
def FnExactTurnSpotWrongFalsely : Prop := fnExactTurnSpotRow.holds Try.pinned (OpenSpec.ofChange fnExactTurnSpotWrong)

/- THE SECOND FORM. 'bulk': how many values and letters a reading holds, each counted each time it is reached (what is shared counts as often as it is met; a slice's spare places count too). A statement '..UptoSaid' is the law's where the arguments, and the package variables that the reading takes, are together of bulk at most 1048576: NARROWER than '..Said'. Prove '..Said' where nothing that the law and all that it calls make is longer than what came in: it says more and counts as full. Else prove '..UptoSaid'. A law counts once. -/
mutual
def uptoBulk {H : Type} : DataW H → Nat
  | .lit (.string bytes) => bytes.length + 1
  | .lit _ => 1
  | .nil => 1
  | .ptr d => uptoBulk d + 1
  | .slice elems spare => uptoBulkAll elems + uptoBulkAll spare + 1
  | .agg parts => uptoBulkAll parts + 1
  | .iface _ d => uptoBulk d + 1
  | .map entries => uptoBulkEntries entries + 1
  | .held _ => 1
def uptoBulkAll {H : Type} : List (DataW H) → Nat
  | [] => 0
  | d :: r => uptoBulk d + uptoBulkAll r
def uptoBulkEntries {H : Type} : List (Lit × DataW H) → Nat
  | [] => 0
  | x :: r => uptoBulkEntry x + uptoBulkEntries r
def uptoBulkEntry {H : Type} : Lit × DataW H → Nat
  | (.string bytes, d) => bytes.length + uptoBulk d + 1
  | (_, d) => uptoBulk d + 1
 end
def uptoSmall : (H : Type) → List (DataW H) → Bool := fun _ ds => decide (uptoBulkAll ds ≤ 1048576)
def OpenSpec.upto (s : _root_.Go.ChangeSpec) : _root_.Go.OpenSpec := { _root_.Go.OpenSpec.ofChange s with cond := some uptoSmall }

/-- 'laws.FnExactIsSpot', WHERE WHAT IT READS IS OF BULK AT MOST 1048576: true; the input reads as it did. -/
def fnExactIsSpotUptoRow : OpenClaim := { program := "ytppgcaennhghoaa", sum := "5547ef7b38bcab05fd0e2e763814947c1e76cb232cbe7f58d137304eaba6da99", func := "loop.example/g01351/laws.FnExactIsSpot", spec := "fnExactIsSpot", apart := false, narrowed := true }
def FnExactIsSpotUptoSaid : Prop := fnExactIsSpotUptoRow.holds Try.pinned (OpenSpec.upto fnExactIsSpotSpec)

/-- 'laws.FnExactSquareStraight', WHERE WHAT IT READS IS OF BULK AT MOST 1048576: true; the input reads as it did. -/
def fnExactSquareStraightUptoRow : OpenClaim := { program := "ytppgcaennhghoaa", sum := "5547ef7b38bcab05fd0e2e763814947c1e76cb232cbe7f58d137304eaba6da99", func := "loop.example/g01351/laws.FnExactSquareStraight", spec := "fnExactSquareStraight", apart := false, narrowed := true }
def FnExactSquareStraightUptoSaid : Prop := fnExactSquareStraightUptoRow.holds Try.pinned (OpenSpec.upto fnExactSquareStraightSpec)

/-- 'laws.FnExactSquareByMirror', WHERE WHAT IT READS IS OF BULK AT MOST 1048576: true; the input reads as it did. -/
def fnExactSquareByMirrorUptoRow : OpenClaim := { program := "ytppgcaennhghoaa", sum := "5547ef7b38bcab05fd0e2e763814947c1e76cb232cbe7f58d137304eaba6da99", func := "loop.example/g01351/laws.FnExactSquareByMirror", spec := "fnExactSquareByMirror", apart := false, narrowed := true }
def FnExactSquareByMirrorUptoSaid : Prop := fnExactSquareByMirrorUptoRow.holds Try.pinned (OpenSpec.upto fnExactSquareByMirrorSpec)

/-- 'laws.FnExactTouchOf', WHERE WHAT IT READS IS OF BULK AT MOST 1048576: true; the input reads as it did. -/
def fnExactTouchOfUptoRow : OpenClaim := { program := "ytppgcaennhghoaa", sum := "5547ef7b38bcab05fd0e2e763814947c1e76cb232cbe7f58d137304eaba6da99", func := "loop.example/g01351/laws.FnExactTouchOf", spec := "fnExactTouchOf", unfollowed := true, recurses := true, leaving := true, apart := false, narrowed := true }
def FnExactTouchOfUptoSaid : Prop := fnExactTouchOfUptoRow.holds Try.pinned (OpenSpec.upto fnExactTouchOfSpec)

/-- 'laws.FnExactIsWholeTouch', WHERE WHAT IT READS IS OF BULK AT MOST 1048576: true; the input reads as it did. -/
def fnExactIsWholeTouchUptoRow : OpenClaim := { program := "ytppgcaennhghoaa", sum := "5547ef7b38bcab05fd0e2e763814947c1e76cb232cbe7f58d137304eaba6da99", func := "loop.example/g01351/laws.FnExactIsWholeTouch", spec := "fnExactIsWholeTouch", unfollowed := true, recurses := true, leaving := true, apart := false, narrowed := true }
def FnExactIsWholeTouchUptoSaid : Prop := fnExactIsWholeTouchUptoRow.holds Try.pinned (OpenSpec.upto fnExactIsWholeTouchSpec)

/-- 'laws.FnExactHeightForTouch', WHERE WHAT IT READS IS OF BULK AT MOST 1048576: true; the input reads as it did. -/
def fnExactHeightForTouchUptoRow : OpenClaim := { program := "ytppgcaennhghoaa", sum := "5547ef7b38bcab05fd0e2e763814947c1e76cb232cbe7f58d137304eaba6da99", func := "loop.example/g01351/laws.FnExactHeightForTouch", spec := "fnExactHeightForTouch", apart := false, narrowed := true }
def FnExactHeightForTouchUptoSaid : Prop := fnExactHeightForTouchUptoRow.holds Try.pinned (OpenSpec.upto fnExactHeightForTouchSpec)

/-- 'laws.FnExactSquareByCorner', WHERE WHAT IT READS IS OF BULK AT MOST 1048576: true; the input reads as it did. -/
def fnExactSquareByCornerUptoRow : OpenClaim := { program := "ytppgcaennhghoaa", sum := "5547ef7b38bcab05fd0e2e763814947c1e76cb232cbe7f58d137304eaba6da99", func := "loop.example/g01351/laws.FnExactSquareByCorner", spec := "fnExactSquareByCorner", apart := false, narrowed := true }
def FnExactSquareByCornerUptoSaid : Prop := fnExactSquareByCornerUptoRow.holds Try.pinned (OpenSpec.upto fnExactSquareByCornerSpec)

/-- 'laws.FnExactOrderByCorner', WHERE WHAT IT READS IS OF BULK AT MOST 1048576: true; the input reads as it did. -/
def fnExactOrderByCornerUptoRow : OpenClaim := { program := "ytppgcaennhghoaa", sum := "5547ef7b38bcab05fd0e2e763814947c1e76cb232cbe7f58d137304eaba6da99", func := "loop.example/g01351/laws.FnExactOrderByCorner", spec := "fnExactOrderByCorner", apart := false, narrowed := true }
def FnExactOrderByCornerUptoSaid : Prop := fnExactOrderByCornerUptoRow.holds Try.pinned (OpenSpec.upto fnExactOrderByCornerSpec)

/-- 'laws.FnExactTouchesByCorner', WHERE WHAT IT READS IS OF BULK AT MOST 1048576: true; the input reads as it did. -/
def fnExactTouchesByCornerUptoRow : OpenClaim := { program := "ytppgcaennhghoaa", sum := "5547ef7b38bcab05fd0e2e763814947c1e76cb232cbe7f58d137304eaba6da99", func := "loop.example/g01351/laws.FnExactTouchesByCorner", spec := "fnExactTouchesByCorner", apart := false, narrowed := true }
def FnExactTouchesByCornerUptoSaid : Prop := fnExactTouchesByCornerUptoRow.holds Try.pinned (OpenSpec.upto fnExactTouchesByCornerSpec)

/-- 'laws.FnExactRiseInCorridor', WHERE WHAT IT READS IS OF BULK AT MOST 1048576: true; the input reads as it did. -/
def fnExactRiseInCorridorUptoRow : OpenClaim := { program := "ytppgcaennhghoaa", sum := "5547ef7b38bcab05fd0e2e763814947c1e76cb232cbe7f58d137304eaba6da99", func := "loop.example/g01351/laws.FnExactRiseInCorridor", spec := "fnExactRiseInCorridor", apart := false, narrowed := true }
def FnExactRiseInCorridorUptoSaid : Prop := fnExactRiseInCorridorUptoRow.holds Try.pinned (OpenSpec.upto fnExactRiseInCorridorSpec)

/-- 'laws.FnExactSquareInCorridor', WHERE WHAT IT READS IS OF BULK AT MOST 1048576: true; the input reads as it did. -/
def fnExactSquareInCorridorUptoRow : OpenClaim := { program := "ytppgcaennhghoaa", sum := "5547ef7b38bcab05fd0e2e763814947c1e76cb232cbe7f58d137304eaba6da99", func := "loop.example/g01351/laws.FnExactSquareInCorridor", spec := "fnExactSquareInCorridor", apart := false, narrowed := true }
def FnExactSquareInCorridorUptoSaid : Prop := fnExactSquareInCorridorUptoRow.holds Try.pinned (OpenSpec.upto fnExactSquareInCorridorSpec)

/-- 'laws.FnExactTouchesInCorridor', WHERE WHAT IT READS IS OF BULK AT MOST 1048576: true; the input reads as it did. -/
def fnExactTouchesInCorridorUptoRow : OpenClaim := { program := "ytppgcaennhghoaa", sum := "5547ef7b38bcab05fd0e2e763814947c1e76cb232cbe7f58d137304eaba6da99", func := "loop.example/g01351/laws.FnExactTouchesInCorridor", spec := "fnExactTouchesInCorridor", unfollowed := true, recurses := true, leaving := true, apart := false, narrowed := true }
def FnExactTouchesInCorridorUptoSaid : Prop := fnExactTouchesInCorridorUptoRow.holds Try.pinned (OpenSpec.upto fnExactTouchesInCorridorSpec)

/-- 'laws.FnExactBestInCorridor', WHERE WHAT IT READS IS OF BULK AT MOST 1048576: true; the input reads as it did. -/
def fnExactBestInCorridorUptoRow : OpenClaim := { program := "ytppgcaennhghoaa", sum := "5547ef7b38bcab05fd0e2e763814947c1e76cb232cbe7f58d137304eaba6da99", func := "loop.example/g01351/laws.FnExactBestInCorridor", spec := "fnExactBestInCorridor", apart := false, narrowed := true }
def FnExactBestInCorridorUptoSaid : Prop := fnExactBestInCorridorUptoRow.holds Try.pinned (OpenSpec.upto fnExactBestInCorridorSpec)

/-- 'laws.FnExactWaysWithin', WHERE WHAT IT READS IS OF BULK AT MOST 1048576: true; the input reads as it did. -/
def fnExactWaysWithinUptoRow : OpenClaim := { program := "ytppgcaennhghoaa", sum := "5547ef7b38bcab05fd0e2e763814947c1e76cb232cbe7f58d137304eaba6da99", func := "loop.example/g01351/laws.FnExactWaysWithin", spec := "fnExactWaysWithin", apart := false, narrowed := true }
def FnExactWaysWithinUptoSaid : Prop := fnExactWaysWithinUptoRow.holds Try.pinned (OpenSpec.upto fnExactWaysWithinSpec)

/-- 'laws.FnExactWholeWays', WHERE WHAT IT READS IS OF BULK AT MOST 1048576: true; the input reads as it did. -/
def fnExactWholeWaysUptoRow : OpenClaim := { program := "ytppgcaennhghoaa", sum := "5547ef7b38bcab05fd0e2e763814947c1e76cb232cbe7f58d137304eaba6da99", func := "loop.example/g01351/laws.FnExactWholeWays", spec := "fnExactWholeWays", apart := false, narrowed := true }
def FnExactWholeWaysUptoSaid : Prop := fnExactWholeWaysUptoRow.holds Try.pinned (OpenSpec.upto fnExactWholeWaysSpec)

/-- 'laws.FnExactNearestByMirror', WHERE WHAT IT READS IS OF BULK AT MOST 1048576: true; the input reads as it did. -/
def fnExactNearestByMirrorUptoRow : OpenClaim := { program := "ytppgcaennhghoaa", sum := "5547ef7b38bcab05fd0e2e763814947c1e76cb232cbe7f58d137304eaba6da99", func := "loop.example/g01351/laws.FnExactNearestByMirror", spec := "fnExactNearestByMirror", apart := false, narrowed := true }
def FnExactNearestByMirrorUptoSaid : Prop := fnExactNearestByMirrorUptoRow.holds Try.pinned (OpenSpec.upto fnExactNearestByMirrorSpec)

/-- 'laws.FnExactMoveSpot', WHERE WHAT IT READS IS OF BULK AT MOST 1048576: true; the input reads as it did. -/
def fnExactMoveSpotUptoRow : OpenClaim := { program := "ytppgcaennhghoaa", sum := "5547ef7b38bcab05fd0e2e763814947c1e76cb232cbe7f58d137304eaba6da99", func := "loop.example/g01351/laws.FnExactMoveSpot", spec := "fnExactMoveSpot", apart := false, narrowed := true }
def FnExactMoveSpotUptoSaid : Prop := fnExactMoveSpotUptoRow.holds Try.pinned (OpenSpec.upto fnExactMoveSpotSpec)

/-- 'laws.FnExactTurnSpot', WHERE WHAT IT READS IS OF BULK AT MOST 1048576: true; the input reads as it did. -/
def fnExactTurnSpotUptoRow : OpenClaim := { program := "ytppgcaennhghoaa", sum := "5547ef7b38bcab05fd0e2e763814947c1e76cb232cbe7f58d137304eaba6da99", func := "loop.example/g01351/laws.FnExactTurnSpot", spec := "fnExactTurnSpot", apart := false, narrowed := true }
def FnExactTurnSpotUptoSaid : Prop := fnExactTurnSpotUptoRow.holds Try.pinned (OpenSpec.upto fnExactTurnSpotSpec)

end Rows
end Go.Proofs.Ytppgcaennhghoaa

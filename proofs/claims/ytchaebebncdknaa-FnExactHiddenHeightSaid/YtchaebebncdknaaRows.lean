/-
  No cell of these rows narrows 'for every input' (looked for: loops, veiled, ifaces, maps, wideKeys, modest, calm, conditions, laid).
  DERIVED. THE GIVEN ROWS OF THIS SEAT. 19 by the template 'for every input the law returns true; each argument reads behind the call as it read before'; 0 by the template 'total and deterministic' (their statements: YtchaebebncdknaaTotals.lean).
  GIVEN WITH THE SEED: the statements are not yours to turn. If you find one false, say at which input.
  Laid BY PROGRAM, IN A SANDBOX (cutbox-rows.mjs): the forced cells as the released guide's own fill.sh prints them over the translation 88b52e9e581479fa… (all of the seat's roots in one cut). By AI agents, Wed Nov 11 2026. No macro, syntax, notation, axiom, sorry.
-/
import Derived.Test.YtchaebebncdknaaChecked
import GoSem.Claim
import GoSem.ClaimJoined
import GoSem.ClaimMapViews
import Derived.JoinedTies
import Derived.KernelRfl
namespace Go.Proofs.Ytchaebebncdknaa
/- THE CELL 'sum', in the pinned program and in every row, IS THE sha256 OF THE DUMP (.gsa) THAT YtchaebebncdknaaProg.lean LOADS. Nothing in Lean hashes anything: it is a label: what it is worth is what the hold of that sum in a sandbox is worth. -/
noncomputable def Try.pinned : Pinned := { name := "ytchaebebncdknaa", sum := "88b52e9e581479fa0bef6a9ebcb5da88e473a94d77f0c68c4d2c0589edaac796", checked := Try.checked }
namespace Rows
def none {H : Type} : Left H := { results := [], args := [] }

/-- 'laws.FnExactCrossHeight': WHATEVER THE INPUT: true; the input reads as it did. -/
def fnExactCrossHeightSpec : ChangeSpec := { name := "fnExactCrossHeight", fn := fun _ => fun
  | [d] => { results := [.lit (.bool true)], args := [d] }
  | _ => none }
def fnExactCrossHeightRow : OpenClaim := { program := "ytchaebebncdknaa", sum := "88b52e9e581479fa0bef6a9ebcb5da88e473a94d77f0c68c4d2c0589edaac796", func := "loop.example/g01351/laws.FnExactCrossHeight", spec := "fnExactCrossHeight", apart := false }
def FnExactCrossHeightSaid : Prop := fnExactCrossHeightRow.holds Try.pinned (OpenSpec.ofChange fnExactCrossHeightSpec)

/-- ITS FALSE NEIGHBOUR: 'it returns false'. Refute it at one input. -/
def fnExactCrossHeightWrong : ChangeSpec := { name := "fnExactCrossHeight", fn := fun _ => fun
  | [d] => { results := [.lit (.bool false)], args := [d] }
  | _ => none }
def FnExactCrossHeightWrongFalsely : Prop := fnExactCrossHeightRow.holds Try.pinned (OpenSpec.ofChange fnExactCrossHeightWrong)

/-- 'laws.FnExactCrossPlace': WHATEVER THE INPUT: true; the input reads as it did. -/
def fnExactCrossPlaceSpec : ChangeSpec := { name := "fnExactCrossPlace", fn := fun _ => fun
  | [d] => { results := [.lit (.bool true)], args := [d] }
  | _ => none }
def fnExactCrossPlaceRow : OpenClaim := { program := "ytchaebebncdknaa", sum := "88b52e9e581479fa0bef6a9ebcb5da88e473a94d77f0c68c4d2c0589edaac796", func := "loop.example/g01351/laws.FnExactCrossPlace", spec := "fnExactCrossPlace", apart := false }
def FnExactCrossPlaceSaid : Prop := fnExactCrossPlaceRow.holds Try.pinned (OpenSpec.ofChange fnExactCrossPlaceSpec)

/-- ITS FALSE NEIGHBOUR: 'it returns false'. Refute it at one input. -/
def fnExactCrossPlaceWrong : ChangeSpec := { name := "fnExactCrossPlace", fn := fun _ => fun
  | [d] => { results := [.lit (.bool false)], args := [d] }
  | _ => none }
def FnExactCrossPlaceWrongFalsely : Prop := fnExactCrossPlaceRow.holds Try.pinned (OpenSpec.ofChange fnExactCrossPlaceWrong)

/-- 'laws.FnExactHeightAt': WHATEVER THE INPUT: true; the input reads as it did. -/
def fnExactHeightAtSpec : ChangeSpec := { name := "fnExactHeightAt", fn := fun _ => fun
  | [d1, d2, d3] => { results := [.lit (.bool true)], args := [d1, d2, d3] }
  | _ => none }
def fnExactHeightAtRow : OpenClaim := { program := "ytchaebebncdknaa", sum := "88b52e9e581479fa0bef6a9ebcb5da88e473a94d77f0c68c4d2c0589edaac796", func := "loop.example/g01351/laws.FnExactHeightAt", spec := "fnExactHeightAt", apart := false }
def FnExactHeightAtSaid : Prop := fnExactHeightAtRow.holds Try.pinned (OpenSpec.ofChange fnExactHeightAtSpec)

/-- ITS FALSE NEIGHBOUR: 'it returns false'. Refute it at one input. -/
def fnExactHeightAtWrong : ChangeSpec := { name := "fnExactHeightAt", fn := fun _ => fun
  | [d1, d2, d3] => { results := [.lit (.bool false)], args := [d1, d2, d3] }
  | _ => none }
def FnExactHeightAtWrongFalsely : Prop := fnExactHeightAtRow.holds Try.pinned (OpenSpec.ofChange fnExactHeightAtWrong)

/-- 'laws.FnExactHighestAt': WHATEVER THE INPUT: true; the input reads as it did. -/
def fnExactHighestAtSpec : ChangeSpec := { name := "fnExactHighestAt", fn := fun _ => fun
  | [d1, d2] => { results := [.lit (.bool true)], args := [d1, d2] }
  | _ => none }
def fnExactHighestAtRow : OpenClaim := { program := "ytchaebebncdknaa", sum := "88b52e9e581479fa0bef6a9ebcb5da88e473a94d77f0c68c4d2c0589edaac796", func := "loop.example/g01351/laws.FnExactHighestAt", spec := "fnExactHighestAt", apart := false }
def FnExactHighestAtSaid : Prop := fnExactHighestAtRow.holds Try.pinned (OpenSpec.ofChange fnExactHighestAtSpec)

/-- ITS FALSE NEIGHBOUR: 'it returns false'. Refute it at one input. -/
def fnExactHighestAtWrong : ChangeSpec := { name := "fnExactHighestAt", fn := fun _ => fun
  | [d1, d2] => { results := [.lit (.bool false)], args := [d1, d2] }
  | _ => none }
def FnExactHighestAtWrongFalsely : Prop := fnExactHighestAtRow.holds Try.pinned (OpenSpec.ofChange fnExactHighestAtWrong)

/-- 'laws.FnExactAreaBelow': WHATEVER THE INPUT: true; the input reads as it did. -/
def fnExactAreaBelowSpec : ChangeSpec := { name := "fnExactAreaBelow", fn := fun _ => fun
  | [d] => { results := [.lit (.bool true)], args := [d] }
  | _ => none }
def fnExactAreaBelowRow : OpenClaim := { program := "ytchaebebncdknaa", sum := "88b52e9e581479fa0bef6a9ebcb5da88e473a94d77f0c68c4d2c0589edaac796", func := "loop.example/g01351/laws.FnExactAreaBelow", spec := "fnExactAreaBelow", apart := false }
def FnExactAreaBelowSaid : Prop := fnExactAreaBelowRow.holds Try.pinned (OpenSpec.ofChange fnExactAreaBelowSpec)

/-- ITS FALSE NEIGHBOUR: 'it returns false'. Refute it at one input. -/
def fnExactAreaBelowWrong : ChangeSpec := { name := "fnExactAreaBelow", fn := fun _ => fun
  | [d] => { results := [.lit (.bool false)], args := [d] }
  | _ => none }
def FnExactAreaBelowWrongFalsely : Prop := fnExactAreaBelowRow.holds Try.pinned (OpenSpec.ofChange fnExactAreaBelowWrong)

/-- 'laws.FnExactAreaBetween': WHATEVER THE INPUT: true; the input reads as it did. -/
def fnExactAreaBetweenSpec : ChangeSpec := { name := "fnExactAreaBetween", fn := fun _ => fun
  | [d] => { results := [.lit (.bool true)], args := [d] }
  | _ => none }
def fnExactAreaBetweenRow : OpenClaim := { program := "ytchaebebncdknaa", sum := "88b52e9e581479fa0bef6a9ebcb5da88e473a94d77f0c68c4d2c0589edaac796", func := "loop.example/g01351/laws.FnExactAreaBetween", spec := "fnExactAreaBetween", apart := false }
def FnExactAreaBetweenSaid : Prop := fnExactAreaBetweenRow.holds Try.pinned (OpenSpec.ofChange fnExactAreaBetweenSpec)

/-- ITS FALSE NEIGHBOUR: 'it returns false'. Refute it at one input. -/
def fnExactAreaBetweenWrong : ChangeSpec := { name := "fnExactAreaBetween", fn := fun _ => fun
  | [d] => { results := [.lit (.bool false)], args := [d] }
  | _ => none }
def FnExactAreaBetweenWrongFalsely : Prop := fnExactAreaBetweenRow.holds Try.pinned (OpenSpec.ofChange fnExactAreaBetweenWrong)

/-- 'laws.FnExactOtherHeight': WHATEVER THE INPUT: true; the input reads as it did. -/
def fnExactOtherHeightSpec : ChangeSpec := { name := "fnExactOtherHeight", fn := fun _ => fun
  | [d1, d2, d3] => { results := [.lit (.bool true)], args := [d1, d2, d3] }
  | _ => none }
def fnExactOtherHeightRow : OpenClaim := { program := "ytchaebebncdknaa", sum := "88b52e9e581479fa0bef6a9ebcb5da88e473a94d77f0c68c4d2c0589edaac796", func := "loop.example/g01351/laws.FnExactOtherHeight", spec := "fnExactOtherHeight", apart := false }
def FnExactOtherHeightSaid : Prop := fnExactOtherHeightRow.holds Try.pinned (OpenSpec.ofChange fnExactOtherHeightSpec)

/-- ITS FALSE NEIGHBOUR: 'it returns false'. Refute it at one input. -/
def fnExactOtherHeightWrong : ChangeSpec := { name := "fnExactOtherHeight", fn := fun _ => fun
  | [d1, d2, d3] => { results := [.lit (.bool false)], args := [d1, d2, d3] }
  | _ => none }
def FnExactOtherHeightWrongFalsely : Prop := fnExactOtherHeightRow.holds Try.pinned (OpenSpec.ofChange fnExactOtherHeightWrong)

/-- 'laws.FnExactShadowLength': WHATEVER THE INPUT: true; the input reads as it did. -/
def fnExactShadowLengthSpec : ChangeSpec := { name := "fnExactShadowLength", fn := fun _ => fun
  | [d1, d2] => { results := [.lit (.bool true)], args := [d1, d2] }
  | _ => none }
def fnExactShadowLengthRow : OpenClaim := { program := "ytchaebebncdknaa", sum := "88b52e9e581479fa0bef6a9ebcb5da88e473a94d77f0c68c4d2c0589edaac796", func := "loop.example/g01351/laws.FnExactShadowLength", spec := "fnExactShadowLength", apart := false }
def FnExactShadowLengthSaid : Prop := fnExactShadowLengthRow.holds Try.pinned (OpenSpec.ofChange fnExactShadowLengthSpec)

/-- ITS FALSE NEIGHBOUR: 'it returns false'. Refute it at one input. -/
def fnExactShadowLengthWrong : ChangeSpec := { name := "fnExactShadowLength", fn := fun _ => fun
  | [d1, d2] => { results := [.lit (.bool false)], args := [d1, d2] }
  | _ => none }
def FnExactShadowLengthWrongFalsely : Prop := fnExactShadowLengthRow.holds Try.pinned (OpenSpec.ofChange fnExactShadowLengthWrong)

/-- 'laws.FnExactShadowEnd': WHATEVER THE INPUT: true; the input reads as it did. -/
def fnExactShadowEndSpec : ChangeSpec := { name := "fnExactShadowEnd", fn := fun _ => fun
  | [d1, d2] => { results := [.lit (.bool true)], args := [d1, d2] }
  | _ => none }
def fnExactShadowEndRow : OpenClaim := { program := "ytchaebebncdknaa", sum := "88b52e9e581479fa0bef6a9ebcb5da88e473a94d77f0c68c4d2c0589edaac796", func := "loop.example/g01351/laws.FnExactShadowEnd", spec := "fnExactShadowEnd", apart := false }
def FnExactShadowEndSaid : Prop := fnExactShadowEndRow.holds Try.pinned (OpenSpec.ofChange fnExactShadowEndSpec)

/-- ITS FALSE NEIGHBOUR: 'it returns false'. Refute it at one input. -/
def fnExactShadowEndWrong : ChangeSpec := { name := "fnExactShadowEnd", fn := fun _ => fun
  | [d1, d2] => { results := [.lit (.bool false)], args := [d1, d2] }
  | _ => none }
def FnExactShadowEndWrongFalsely : Prop := fnExactShadowEndRow.holds Try.pinned (OpenSpec.ofChange fnExactShadowEndWrong)

/-- 'laws.FnExactShadowOnWall': WHATEVER THE INPUT: true; the input reads as it did. -/
def fnExactShadowOnWallSpec : ChangeSpec := { name := "fnExactShadowOnWall", fn := fun _ => fun
  | [d1, d2, d3] => { results := [.lit (.bool true)], args := [d1, d2, d3] }
  | _ => none }
def fnExactShadowOnWallRow : OpenClaim := { program := "ytchaebebncdknaa", sum := "88b52e9e581479fa0bef6a9ebcb5da88e473a94d77f0c68c4d2c0589edaac796", func := "loop.example/g01351/laws.FnExactShadowOnWall", spec := "fnExactShadowOnWall", apart := false }
def FnExactShadowOnWallSaid : Prop := fnExactShadowOnWallRow.holds Try.pinned (OpenSpec.ofChange fnExactShadowOnWallSpec)

/-- ITS FALSE NEIGHBOUR: 'it returns false'. Refute it at one input. -/
def fnExactShadowOnWallWrong : ChangeSpec := { name := "fnExactShadowOnWall", fn := fun _ => fun
  | [d1, d2, d3] => { results := [.lit (.bool false)], args := [d1, d2, d3] }
  | _ => none }
def FnExactShadowOnWallWrongFalsely : Prop := fnExactShadowOnWallRow.holds Try.pinned (OpenSpec.ofChange fnExactShadowOnWallWrong)

/-- 'laws.FnExactSunShadow': WHATEVER THE INPUT: true; the input reads as it did. -/
def fnExactSunShadowSpec : ChangeSpec := { name := "fnExactSunShadow", fn := fun _ => fun
  | [d1, d2, d3] => { results := [.lit (.bool true)], args := [d1, d2, d3] }
  | _ => none }
def fnExactSunShadowRow : OpenClaim := { program := "ytchaebebncdknaa", sum := "88b52e9e581479fa0bef6a9ebcb5da88e473a94d77f0c68c4d2c0589edaac796", func := "loop.example/g01351/laws.FnExactSunShadow", spec := "fnExactSunShadow", apart := false }
def FnExactSunShadowSaid : Prop := fnExactSunShadowRow.holds Try.pinned (OpenSpec.ofChange fnExactSunShadowSpec)

/-- ITS FALSE NEIGHBOUR: 'it returns false'. Refute it at one input. -/
def fnExactSunShadowWrong : ChangeSpec := { name := "fnExactSunShadow", fn := fun _ => fun
  | [d1, d2, d3] => { results := [.lit (.bool false)], args := [d1, d2, d3] }
  | _ => none }
def FnExactSunShadowWrongFalsely : Prop := fnExactSunShadowRow.holds Try.pinned (OpenSpec.ofChange fnExactSunShadowWrong)

/-- 'laws.FnExactSunSlope': WHATEVER THE INPUT: true; the input reads as it did. -/
def fnExactSunSlopeSpec : ChangeSpec := { name := "fnExactSunSlope", fn := fun _ => fun
  | [d1, d2] => { results := [.lit (.bool true)], args := [d1, d2] }
  | _ => none }
def fnExactSunSlopeRow : OpenClaim := { program := "ytchaebebncdknaa", sum := "88b52e9e581479fa0bef6a9ebcb5da88e473a94d77f0c68c4d2c0589edaac796", func := "loop.example/g01351/laws.FnExactSunSlope", spec := "fnExactSunSlope", apart := false }
def FnExactSunSlopeSaid : Prop := fnExactSunSlopeRow.holds Try.pinned (OpenSpec.ofChange fnExactSunSlopeSpec)

/-- ITS FALSE NEIGHBOUR: 'it returns false'. Refute it at one input. -/
def fnExactSunSlopeWrong : ChangeSpec := { name := "fnExactSunSlope", fn := fun _ => fun
  | [d1, d2] => { results := [.lit (.bool false)], args := [d1, d2] }
  | _ => none }
def FnExactSunSlopeWrongFalsely : Prop := fnExactSunSlopeRow.holds Try.pinned (OpenSpec.ofChange fnExactSunSlopeWrong)

/-- 'laws.FnExactLampOfShadow': WHATEVER THE INPUT: true; the input reads as it did. -/
def fnExactLampOfShadowSpec : ChangeSpec := { name := "fnExactLampOfShadow", fn := fun _ => fun
  | [d1, d2] => { results := [.lit (.bool true)], args := [d1, d2] }
  | _ => none }
def fnExactLampOfShadowRow : OpenClaim := { program := "ytchaebebncdknaa", sum := "88b52e9e581479fa0bef6a9ebcb5da88e473a94d77f0c68c4d2c0589edaac796", func := "loop.example/g01351/laws.FnExactLampOfShadow", spec := "fnExactLampOfShadow", apart := false }
def FnExactLampOfShadowSaid : Prop := fnExactLampOfShadowRow.holds Try.pinned (OpenSpec.ofChange fnExactLampOfShadowSpec)

/-- ITS FALSE NEIGHBOUR: 'it returns false'. Refute it at one input. -/
def fnExactLampOfShadowWrong : ChangeSpec := { name := "fnExactLampOfShadow", fn := fun _ => fun
  | [d1, d2] => { results := [.lit (.bool false)], args := [d1, d2] }
  | _ => none }
def FnExactLampOfShadowWrongFalsely : Prop := fnExactLampOfShadowRow.holds Try.pinned (OpenSpec.ofChange fnExactLampOfShadowWrong)

/-- 'laws.FnExactPoleOfShadow': WHATEVER THE INPUT: true; the input reads as it did. -/
def fnExactPoleOfShadowSpec : ChangeSpec := { name := "fnExactPoleOfShadow", fn := fun _ => fun
  | [d1, d2, d3] => { results := [.lit (.bool true)], args := [d1, d2, d3] }
  | _ => none }
def fnExactPoleOfShadowRow : OpenClaim := { program := "ytchaebebncdknaa", sum := "88b52e9e581479fa0bef6a9ebcb5da88e473a94d77f0c68c4d2c0589edaac796", func := "loop.example/g01351/laws.FnExactPoleOfShadow", spec := "fnExactPoleOfShadow", apart := false }
def FnExactPoleOfShadowSaid : Prop := fnExactPoleOfShadowRow.holds Try.pinned (OpenSpec.ofChange fnExactPoleOfShadowSpec)

/-- ITS FALSE NEIGHBOUR: 'it returns false'. Refute it at one input. -/
def fnExactPoleOfShadowWrong : ChangeSpec := { name := "fnExactPoleOfShadow", fn := fun _ => fun
  | [d1, d2, d3] => { results := [.lit (.bool false)], args := [d1, d2, d3] }
  | _ => none }
def FnExactPoleOfShadowWrongFalsely : Prop := fnExactPoleOfShadowRow.holds Try.pinned (OpenSpec.ofChange fnExactPoleOfShadowWrong)

/-- 'laws.FnExactPlaceOfShadow': WHATEVER THE INPUT: true; the input reads as it did. -/
def fnExactPlaceOfShadowSpec : ChangeSpec := { name := "fnExactPlaceOfShadow", fn := fun _ => fun
  | [d1, d2, d3] => { results := [.lit (.bool true)], args := [d1, d2, d3] }
  | _ => none }
def fnExactPlaceOfShadowRow : OpenClaim := { program := "ytchaebebncdknaa", sum := "88b52e9e581479fa0bef6a9ebcb5da88e473a94d77f0c68c4d2c0589edaac796", func := "loop.example/g01351/laws.FnExactPlaceOfShadow", spec := "fnExactPlaceOfShadow", apart := false }
def FnExactPlaceOfShadowSaid : Prop := fnExactPlaceOfShadowRow.holds Try.pinned (OpenSpec.ofChange fnExactPlaceOfShadowSpec)

/-- ITS FALSE NEIGHBOUR: 'it returns false'. Refute it at one input. -/
def fnExactPlaceOfShadowWrong : ChangeSpec := { name := "fnExactPlaceOfShadow", fn := fun _ => fun
  | [d1, d2, d3] => { results := [.lit (.bool false)], args := [d1, d2, d3] }
  | _ => none }
def FnExactPlaceOfShadowWrongFalsely : Prop := fnExactPlaceOfShadowRow.holds Try.pinned (OpenSpec.ofChange fnExactPlaceOfShadowWrong)

/-- 'laws.FnExactHiddenHeight': WHATEVER THE INPUT: true; the input reads as it did. -/
def fnExactHiddenHeightSpec : ChangeSpec := { name := "fnExactHiddenHeight", fn := fun _ => fun
  | [d1, d2, d3] => { results := [.lit (.bool true)], args := [d1, d2, d3] }
  | _ => none }
def fnExactHiddenHeightRow : OpenClaim := { program := "ytchaebebncdknaa", sum := "88b52e9e581479fa0bef6a9ebcb5da88e473a94d77f0c68c4d2c0589edaac796", func := "loop.example/g01351/laws.FnExactHiddenHeight", spec := "fnExactHiddenHeight", apart := false }
def FnExactHiddenHeightSaid : Prop := fnExactHiddenHeightRow.holds Try.pinned (OpenSpec.ofChange fnExactHiddenHeightSpec)

/-- ITS FALSE NEIGHBOUR: 'it returns false'. Refute it at one input. -/
def fnExactHiddenHeightWrong : ChangeSpec := { name := "fnExactHiddenHeight", fn := fun _ => fun
  | [d1, d2, d3] => { results := [.lit (.bool false)], args := [d1, d2, d3] }
  | _ => none }
def FnExactHiddenHeightWrongFalsely : Prop := fnExactHiddenHeightRow.holds Try.pinned (OpenSpec.ofChange fnExactHiddenHeightWrong)

/-- 'laws.FnExactFarthestDark': WHATEVER THE INPUT: true; the input reads as it did. -/
def fnExactFarthestDarkSpec : ChangeSpec := { name := "fnExactFarthestDark", fn := fun _ => fun
  | [d1, d2] => { results := [.lit (.bool true)], args := [d1, d2] }
  | _ => none }
def fnExactFarthestDarkRow : OpenClaim := { program := "ytchaebebncdknaa", sum := "88b52e9e581479fa0bef6a9ebcb5da88e473a94d77f0c68c4d2c0589edaac796", func := "loop.example/g01351/laws.FnExactFarthestDark", spec := "fnExactFarthestDark", apart := false }
def FnExactFarthestDarkSaid : Prop := fnExactFarthestDarkRow.holds Try.pinned (OpenSpec.ofChange fnExactFarthestDarkSpec)

/-- ITS FALSE NEIGHBOUR: 'it returns false'. Refute it at one input. -/
def fnExactFarthestDarkWrong : ChangeSpec := { name := "fnExactFarthestDark", fn := fun _ => fun
  | [d1, d2] => { results := [.lit (.bool false)], args := [d1, d2] }
  | _ => none }
def FnExactFarthestDarkWrongFalsely : Prop := fnExactFarthestDarkRow.holds Try.pinned (OpenSpec.ofChange fnExactFarthestDarkWrong)

/-- 'laws.FnExactMirrorFor': WHATEVER THE INPUT: true; the input reads as it did. -/
def fnExactMirrorForSpec : ChangeSpec := { name := "fnExactMirrorFor", fn := fun _ => fun
  | [d1, d2] => { results := [.lit (.bool true)], args := [d1, d2] }
  | _ => none }
def fnExactMirrorForRow : OpenClaim := { program := "ytchaebebncdknaa", sum := "88b52e9e581479fa0bef6a9ebcb5da88e473a94d77f0c68c4d2c0589edaac796", func := "loop.example/g01351/laws.FnExactMirrorFor", spec := "fnExactMirrorFor", apart := false }
def FnExactMirrorForSaid : Prop := fnExactMirrorForRow.holds Try.pinned (OpenSpec.ofChange fnExactMirrorForSpec)

/-- ITS FALSE NEIGHBOUR: 'it returns false'. Refute it at one input. -/
def fnExactMirrorForWrong : ChangeSpec := { name := "fnExactMirrorFor", fn := fun _ => fun
  | [d1, d2] => { results := [.lit (.bool false)], args := [d1, d2] }
  | _ => none }
def FnExactMirrorForWrongFalsely : Prop := fnExactMirrorForRow.holds Try.pinned (OpenSpec.ofChange fnExactMirrorForWrong)

/-- 'laws.FnExactLookedAt': WHATEVER THE INPUT: true; the input reads as it did. -/
def fnExactLookedAtSpec : ChangeSpec := { name := "fnExactLookedAt", fn := fun _ => fun
  | [d1, d2] => { results := [.lit (.bool true)], args := [d1, d2] }
  | _ => none }
def fnExactLookedAtRow : OpenClaim := { program := "ytchaebebncdknaa", sum := "88b52e9e581479fa0bef6a9ebcb5da88e473a94d77f0c68c4d2c0589edaac796", func := "loop.example/g01351/laws.FnExactLookedAt", spec := "fnExactLookedAt", apart := false }
def FnExactLookedAtSaid : Prop := fnExactLookedAtRow.holds Try.pinned (OpenSpec.ofChange fnExactLookedAtSpec)

/-- ITS FALSE NEIGHBOUR: 'it returns false'. Refute it at one input. -/
def fnExactLookedAtWrong : ChangeSpec := { name := "fnExactLookedAt", fn := fun _ => fun
  | [d1, d2] => { results := [.lit (.bool false)], args := [d1, d2] }
  | _ => none }
def FnExactLookedAtWrongFalsely : Prop := fnExactLookedAtRow.holds Try.pinned (OpenSpec.ofChange fnExactLookedAtWrong)

/- THE SECOND FORM. 'bulk': how many values and letters a reading holds, each counted each time it is reached (what is shared counts as often as it is met; a slice's spare places count too). A statement '..UptoSaid' is the law's where the arguments, and the package variables that the reading takes, are together of bulk at most 1048576: NARROWER than '..Said'. Prove '..Said' where nothing that the law and all that it calls make is longer than what came in: it says more and counts as full. Else prove '..UptoSaid'. A law counts once. -/
mutual
def uptoBulk {H : Type} : DataW H → Nat
  | .lit (.string bytes) => bytes.length + 1
  | .lit _ => 1
  | .nil => 1
  | .ptr d => uptoBulk d + 1
  | .slice elems spare => uptoBulkAll elems + uptoBulkAll spare + 1
  | .agg parts => uptoBulkAll parts + 1
  | .iface _ d => uptoBulk d + 1
  | .map entries => uptoBulkEntries entries + 1
  | .held _ => 1
def uptoBulkAll {H : Type} : List (DataW H) → Nat
  | [] => 0
  | d :: r => uptoBulk d + uptoBulkAll r
def uptoBulkEntries {H : Type} : List (Lit × DataW H) → Nat
  | [] => 0
  | x :: r => uptoBulkEntry x + uptoBulkEntries r
def uptoBulkEntry {H : Type} : Lit × DataW H → Nat
  | (.string bytes, d) => bytes.length + uptoBulk d + 1
  | (_, d) => uptoBulk d + 1
 end
def uptoSmall : (H : Type) → List (DataW H) → Bool := fun _ ds => decide (uptoBulkAll ds ≤ 1048576)
def OpenSpec.upto (s : _root_.Go.ChangeSpec) : _root_.Go.OpenSpec := { _root_.Go.OpenSpec.ofChange s with cond := some uptoSmall }

/-- 'laws.FnExactCrossHeight', WHERE WHAT IT READS IS OF BULK AT MOST 1048576: true; the input reads as it did. -/
def fnExactCrossHeightUptoRow : OpenClaim := { program := "ytchaebebncdknaa", sum := "88b52e9e581479fa0bef6a9ebcb5da88e473a94d77f0c68c4d2c0589edaac796", func := "loop.example/g01351/laws.FnExactCrossHeight", spec := "fnExactCrossHeight", apart := false, narrowed := true }
def FnExactCrossHeightUptoSaid : Prop := fnExactCrossHeightUptoRow.holds Try.pinned (OpenSpec.upto fnExactCrossHeightSpec)

/-- 'laws.FnExactCrossPlace', WHERE WHAT IT READS IS OF BULK AT MOST 1048576: true; the input reads as it did. -/
def fnExactCrossPlaceUptoRow : OpenClaim := { program := "ytchaebebncdknaa", sum := "88b52e9e581479fa0bef6a9ebcb5da88e473a94d77f0c68c4d2c0589edaac796", func := "loop.example/g01351/laws.FnExactCrossPlace", spec := "fnExactCrossPlace", apart := false, narrowed := true }
def FnExactCrossPlaceUptoSaid : Prop := fnExactCrossPlaceUptoRow.holds Try.pinned (OpenSpec.upto fnExactCrossPlaceSpec)

/-- 'laws.FnExactHeightAt', WHERE WHAT IT READS IS OF BULK AT MOST 1048576: true; the input reads as it did. -/
def fnExactHeightAtUptoRow : OpenClaim := { program := "ytchaebebncdknaa", sum := "88b52e9e581479fa0bef6a9ebcb5da88e473a94d77f0c68c4d2c0589edaac796", func := "loop.example/g01351/laws.FnExactHeightAt", spec := "fnExactHeightAt", apart := false, narrowed := true }
def FnExactHeightAtUptoSaid : Prop := fnExactHeightAtUptoRow.holds Try.pinned (OpenSpec.upto fnExactHeightAtSpec)

/-- 'laws.FnExactHighestAt', WHERE WHAT IT READS IS OF BULK AT MOST 1048576: true; the input reads as it did. -/
def fnExactHighestAtUptoRow : OpenClaim := { program := "ytchaebebncdknaa", sum := "88b52e9e581479fa0bef6a9ebcb5da88e473a94d77f0c68c4d2c0589edaac796", func := "loop.example/g01351/laws.FnExactHighestAt", spec := "fnExactHighestAt", apart := false, narrowed := true }
def FnExactHighestAtUptoSaid : Prop := fnExactHighestAtUptoRow.holds Try.pinned (OpenSpec.upto fnExactHighestAtSpec)

/-- 'laws.FnExactAreaBelow', WHERE WHAT IT READS IS OF BULK AT MOST 1048576: true; the input reads as it did. -/
def fnExactAreaBelowUptoRow : OpenClaim := { program := "ytchaebebncdknaa", sum := "88b52e9e581479fa0bef6a9ebcb5da88e473a94d77f0c68c4d2c0589edaac796", func := "loop.example/g01351/laws.FnExactAreaBelow", spec := "fnExactAreaBelow", apart := false, narrowed := true }
def FnExactAreaBelowUptoSaid : Prop := fnExactAreaBelowUptoRow.holds Try.pinned (OpenSpec.upto fnExactAreaBelowSpec)

/-- 'laws.FnExactAreaBetween', WHERE WHAT IT READS IS OF BULK AT MOST 1048576: true; the input reads as it did. -/
def fnExactAreaBetweenUptoRow : OpenClaim := { program := "ytchaebebncdknaa", sum := "88b52e9e581479fa0bef6a9ebcb5da88e473a94d77f0c68c4d2c0589edaac796", func := "loop.example/g01351/laws.FnExactAreaBetween", spec := "fnExactAreaBetween", apart := false, narrowed := true }
def FnExactAreaBetweenUptoSaid : Prop := fnExactAreaBetweenUptoRow.holds Try.pinned (OpenSpec.upto fnExactAreaBetweenSpec)

/-- 'laws.FnExactOtherHeight', WHERE WHAT IT READS IS OF BULK AT MOST 1048576: true; the input reads as it did. -/
def fnExactOtherHeightUptoRow : OpenClaim := { program := "ytchaebebncdknaa", sum := "88b52e9e581479fa0bef6a9ebcb5da88e473a94d77f0c68c4d2c0589edaac796", func := "loop.example/g01351/laws.FnExactOtherHeight", spec := "fnExactOtherHeight", apart := false, narrowed := true }
def FnExactOtherHeightUptoSaid : Prop := fnExactOtherHeightUptoRow.holds Try.pinned (OpenSpec.upto fnExactOtherHeightSpec)

/-- 'laws.FnExactShadowLength', WHERE WHAT IT READS IS OF BULK AT MOST 1048576: true; the input reads as it did. -/
def fnExactShadowLengthUptoRow : OpenClaim := { program := "ytchaebebncdknaa", sum := "88b52e9e581479fa0bef6a9ebcb5da88e473a94d77f0c68c4d2c0589edaac796", func := "loop.example/g01351/laws.FnExactShadowLength", spec := "fnExactShadowLength", apart := false, narrowed := true }
def FnExactShadowLengthUptoSaid : Prop := fnExactShadowLengthUptoRow.holds Try.pinned (OpenSpec.upto fnExactShadowLengthSpec)

/-- 'laws.FnExactShadowEnd', WHERE WHAT IT READS IS OF BULK AT MOST 1048576: true; the input reads as it did. -/
def fnExactShadowEndUptoRow : OpenClaim := { program := "ytchaebebncdknaa", sum := "88b52e9e581479fa0bef6a9ebcb5da88e473a94d77f0c68c4d2c0589edaac796", func := "loop.example/g01351/laws.FnExactShadowEnd", spec := "fnExactShadowEnd", apart := false, narrowed := true }
def FnExactShadowEndUptoSaid : Prop := fnExactShadowEndUptoRow.holds Try.pinned (OpenSpec.upto fnExactShadowEndSpec)

/-- 'laws.FnExactShadowOnWall', WHERE WHAT IT READS IS OF BULK AT MOST 1048576: true; the input reads as it did. -/
def fnExactShadowOnWallUptoRow : OpenClaim := { program := "ytchaebebncdknaa", sum := "88b52e9e581479fa0bef6a9ebcb5da88e473a94d77f0c68c4d2c0589edaac796", func := "loop.example/g01351/laws.FnExactShadowOnWall", spec := "fnExactShadowOnWall", apart := false, narrowed := true }
def FnExactShadowOnWallUptoSaid : Prop := fnExactShadowOnWallUptoRow.holds Try.pinned (OpenSpec.upto fnExactShadowOnWallSpec)

/-- 'laws.FnExactSunShadow', WHERE WHAT IT READS IS OF BULK AT MOST 1048576: true; the input reads as it did. -/
def fnExactSunShadowUptoRow : OpenClaim := { program := "ytchaebebncdknaa", sum := "88b52e9e581479fa0bef6a9ebcb5da88e473a94d77f0c68c4d2c0589edaac796", func := "loop.example/g01351/laws.FnExactSunShadow", spec := "fnExactSunShadow", apart := false, narrowed := true }
def FnExactSunShadowUptoSaid : Prop := fnExactSunShadowUptoRow.holds Try.pinned (OpenSpec.upto fnExactSunShadowSpec)

/-- 'laws.FnExactSunSlope', WHERE WHAT IT READS IS OF BULK AT MOST 1048576: true; the input reads as it did. -/
def fnExactSunSlopeUptoRow : OpenClaim := { program := "ytchaebebncdknaa", sum := "88b52e9e581479fa0bef6a9ebcb5da88e473a94d77f0c68c4d2c0589edaac796", func := "loop.example/g01351/laws.FnExactSunSlope", spec := "fnExactSunSlope", apart := false, narrowed := true }
def FnExactSunSlopeUptoSaid : Prop := fnExactSunSlopeUptoRow.holds Try.pinned (OpenSpec.upto fnExactSunSlopeSpec)

/-- 'laws.FnExactLampOfShadow', WHERE WHAT IT READS IS OF BULK AT MOST 1048576: true; the input reads as it did. -/
def fnExactLampOfShadowUptoRow : OpenClaim := { program := "ytchaebebncdknaa", sum := "88b52e9e581479fa0bef6a9ebcb5da88e473a94d77f0c68c4d2c0589edaac796", func := "loop.example/g01351/laws.FnExactLampOfShadow", spec := "fnExactLampOfShadow", apart := false, narrowed := true }
def FnExactLampOfShadowUptoSaid : Prop := fnExactLampOfShadowUptoRow.holds Try.pinned (OpenSpec.upto fnExactLampOfShadowSpec)

/-- 'laws.FnExactPoleOfShadow', WHERE WHAT IT READS IS OF BULK AT MOST 1048576: true; the input reads as it did. -/
def fnExactPoleOfShadowUptoRow : OpenClaim := { program := "ytchaebebncdknaa", sum := "88b52e9e581479fa0bef6a9ebcb5da88e473a94d77f0c68c4d2c0589edaac796", func := "loop.example/g01351/laws.FnExactPoleOfShadow", spec := "fnExactPoleOfShadow", apart := false, narrowed := true }
def FnExactPoleOfShadowUptoSaid : Prop := fnExactPoleOfShadowUptoRow.holds Try.pinned (OpenSpec.upto fnExactPoleOfShadowSpec)

/-- 'laws.FnExactPlaceOfShadow', WHERE WHAT IT READS IS OF BULK AT MOST 1048576: true; the input reads as it did. -/
def fnExactPlaceOfShadowUptoRow : OpenClaim := { program := "ytchaebebncdknaa", sum := "88b52e9e581479fa0bef6a9ebcb5da88e473a94d77f0c68c4d2c0589edaac796", func := "loop.example/g01351/laws.FnExactPlaceOfShadow", spec := "fnExactPlaceOfShadow", apart := false, narrowed := true }
def FnExactPlaceOfShadowUptoSaid : Prop := fnExactPlaceOfShadowUptoRow.holds Try.pinned (OpenSpec.upto fnExactPlaceOfShadowSpec)

/-- 'laws.FnExactHiddenHeight', WHERE WHAT IT READS IS OF BULK AT MOST 1048576: true; the input reads as it did. -/
def fnExactHiddenHeightUptoRow : OpenClaim := { program := "ytchaebebncdknaa", sum := "88b52e9e581479fa0bef6a9ebcb5da88e473a94d77f0c68c4d2c0589edaac796", func := "loop.example/g01351/laws.FnExactHiddenHeight", spec := "fnExactHiddenHeight", apart := false, narrowed := true }
def FnExactHiddenHeightUptoSaid : Prop := fnExactHiddenHeightUptoRow.holds Try.pinned (OpenSpec.upto fnExactHiddenHeightSpec)

/-- 'laws.FnExactFarthestDark', WHERE WHAT IT READS IS OF BULK AT MOST 1048576: true; the input reads as it did. -/
def fnExactFarthestDarkUptoRow : OpenClaim := { program := "ytchaebebncdknaa", sum := "88b52e9e581479fa0bef6a9ebcb5da88e473a94d77f0c68c4d2c0589edaac796", func := "loop.example/g01351/laws.FnExactFarthestDark", spec := "fnExactFarthestDark", apart := false, narrowed := true }
def FnExactFarthestDarkUptoSaid : Prop := fnExactFarthestDarkUptoRow.holds Try.pinned (OpenSpec.upto fnExactFarthestDarkSpec)

/-- 'laws.FnExactMirrorFor', WHERE WHAT IT READS IS OF BULK AT MOST 1048576: true; the input reads as it did. -/
def fnExactMirrorForUptoRow : OpenClaim := { program := "ytchaebebncdknaa", sum := "88b52e9e581479fa0bef6a9ebcb5da88e473a94d77f0c68c4d2c0589edaac796", func := "loop.example/g01351/laws.FnExactMirrorFor", spec := "fnExactMirrorFor", apart := false, narrowed := true }
def FnExactMirrorForUptoSaid : Prop := fnExactMirrorForUptoRow.holds Try.pinned (OpenSpec.upto fnExactMirrorForSpec)

/-- 'laws.FnExactLookedAt', WHERE WHAT IT READS IS OF BULK AT MOST 1048576: true; the input reads as it did. -/
def fnExactLookedAtUptoRow : OpenClaim := { program := "ytchaebebncdknaa", sum := "88b52e9e581479fa0bef6a9ebcb5da88e473a94d77f0c68c4d2c0589edaac796", func := "loop.example/g01351/laws.FnExactLookedAt", spec := "fnExactLookedAt", apart := false, narrowed := true }
def FnExactLookedAtUptoSaid : Prop := fnExactLookedAtUptoRow.holds Try.pinned (OpenSpec.upto fnExactLookedAtSpec)

end Rows
end Go.Proofs.Ytchaebebncdknaa

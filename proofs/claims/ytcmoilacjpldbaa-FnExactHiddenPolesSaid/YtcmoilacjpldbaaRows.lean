/-
  No cell of these rows narrows 'for every input' (looked for: loops, veiled, ifaces, maps, wideKeys, modest, calm, conditions, laid).
  DERIVED. THE GIVEN ROWS OF THIS SEAT. 16 by the template 'for every input the law returns true; each argument reads behind the call as it read before'; 0 by the template 'total and deterministic' (their statements: YtcmoilacjpldbaaTotals.lean).
  GIVEN WITH THE SEED: the statements are not yours to turn. If you find one false, say at which input.
  Laid BY PROGRAM, IN A SANDBOX (cutbox-rows.mjs): the forced cells as the released guide's own fill.sh prints them over the translation 9afa03196a73a94d… (all of the seat's roots in one cut). By AI agents, Wed Nov 11 2026. No macro, syntax, notation, axiom, sorry.
-/
import Derived.Test.YtcmoilacjpldbaaChecked
import GoSem.Claim
import GoSem.ClaimJoined
import GoSem.ClaimMapViews
import Derived.JoinedTies
import Derived.KernelRfl
namespace Go.Proofs.Ytcmoilacjpldbaa
/- THE CELL 'sum', in the pinned program and in every row, IS THE sha256 OF THE DUMP (.gsa) THAT YtcmoilacjpldbaaProg.lean LOADS. Nothing in Lean hashes anything: it is a label: what it is worth is what the hold of that sum in a sandbox is worth. -/
noncomputable def Try.pinned : Pinned := { name := "ytcmoilacjpldbaa", sum := "9afa03196a73a94dd6bbc614afa274f81f7900afaa72a8139b06ec5a9602dcae", checked := Try.checked }
namespace Rows
def none {H : Type} : Left H := { results := [], args := [] }

/-- 'laws.FnExactShadowLength': WHATEVER THE INPUT: true; the input reads as it did. -/
def fnExactShadowLengthSpec : ChangeSpec := { name := "fnExactShadowLength", fn := fun _ => fun
  | [d1, d2] => { results := [.lit (.bool true)], args := [d1, d2] }
  | _ => none }
def fnExactShadowLengthRow : OpenClaim := { program := "ytcmoilacjpldbaa", sum := "9afa03196a73a94dd6bbc614afa274f81f7900afaa72a8139b06ec5a9602dcae", func := "loop.example/g01351/laws.FnExactShadowLength", spec := "fnExactShadowLength", apart := false }
def FnExactShadowLengthSaid : Prop := fnExactShadowLengthRow.holds Try.pinned (OpenSpec.ofChange fnExactShadowLengthSpec)

/-- ITS FALSE NEIGHBOUR: 'it returns false'. Refute it at one input. -/
def fnExactShadowLengthWrong : ChangeSpec := { name := "fnExactShadowLength", fn := fun _ => fun
  | [d1, d2] => { results := [.lit (.bool false)], args := [d1, d2] }
  | _ => none }
def FnExactShadowLengthWrongFalsely : Prop := fnExactShadowLengthRow.holds Try.pinned (OpenSpec.ofChange fnExactShadowLengthWrong)

/-- 'laws.FnExactShadowEnd': WHATEVER THE INPUT: true; the input reads as it did. -/
def fnExactShadowEndSpec : ChangeSpec := { name := "fnExactShadowEnd", fn := fun _ => fun
  | [d1, d2] => { results := [.lit (.bool true)], args := [d1, d2] }
  | _ => none }
def fnExactShadowEndRow : OpenClaim := { program := "ytcmoilacjpldbaa", sum := "9afa03196a73a94dd6bbc614afa274f81f7900afaa72a8139b06ec5a9602dcae", func := "loop.example/g01351/laws.FnExactShadowEnd", spec := "fnExactShadowEnd", apart := false }
def FnExactShadowEndSaid : Prop := fnExactShadowEndRow.holds Try.pinned (OpenSpec.ofChange fnExactShadowEndSpec)

/-- ITS FALSE NEIGHBOUR: 'it returns false'. Refute it at one input. -/
def fnExactShadowEndWrong : ChangeSpec := { name := "fnExactShadowEnd", fn := fun _ => fun
  | [d1, d2] => { results := [.lit (.bool false)], args := [d1, d2] }
  | _ => none }
def FnExactShadowEndWrongFalsely : Prop := fnExactShadowEndRow.holds Try.pinned (OpenSpec.ofChange fnExactShadowEndWrong)

/-- 'laws.FnExactShadowOnWall': WHATEVER THE INPUT: true; the input reads as it did. -/
def fnExactShadowOnWallSpec : ChangeSpec := { name := "fnExactShadowOnWall", fn := fun _ => fun
  | [d1, d2, d3] => { results := [.lit (.bool true)], args := [d1, d2, d3] }
  | _ => none }
def fnExactShadowOnWallRow : OpenClaim := { program := "ytcmoilacjpldbaa", sum := "9afa03196a73a94dd6bbc614afa274f81f7900afaa72a8139b06ec5a9602dcae", func := "loop.example/g01351/laws.FnExactShadowOnWall", spec := "fnExactShadowOnWall", apart := false }
def FnExactShadowOnWallSaid : Prop := fnExactShadowOnWallRow.holds Try.pinned (OpenSpec.ofChange fnExactShadowOnWallSpec)

/-- ITS FALSE NEIGHBOUR: 'it returns false'. Refute it at one input. -/
def fnExactShadowOnWallWrong : ChangeSpec := { name := "fnExactShadowOnWall", fn := fun _ => fun
  | [d1, d2, d3] => { results := [.lit (.bool false)], args := [d1, d2, d3] }
  | _ => none }
def FnExactShadowOnWallWrongFalsely : Prop := fnExactShadowOnWallRow.holds Try.pinned (OpenSpec.ofChange fnExactShadowOnWallWrong)

/-- 'laws.FnExactSunShadow': WHATEVER THE INPUT: true; the input reads as it did. -/
def fnExactSunShadowSpec : ChangeSpec := { name := "fnExactSunShadow", fn := fun _ => fun
  | [d1, d2, d3] => { results := [.lit (.bool true)], args := [d1, d2, d3] }
  | _ => none }
def fnExactSunShadowRow : OpenClaim := { program := "ytcmoilacjpldbaa", sum := "9afa03196a73a94dd6bbc614afa274f81f7900afaa72a8139b06ec5a9602dcae", func := "loop.example/g01351/laws.FnExactSunShadow", spec := "fnExactSunShadow", apart := false }
def FnExactSunShadowSaid : Prop := fnExactSunShadowRow.holds Try.pinned (OpenSpec.ofChange fnExactSunShadowSpec)

/-- ITS FALSE NEIGHBOUR: 'it returns false'. Refute it at one input. -/
def fnExactSunShadowWrong : ChangeSpec := { name := "fnExactSunShadow", fn := fun _ => fun
  | [d1, d2, d3] => { results := [.lit (.bool false)], args := [d1, d2, d3] }
  | _ => none }
def FnExactSunShadowWrongFalsely : Prop := fnExactSunShadowRow.holds Try.pinned (OpenSpec.ofChange fnExactSunShadowWrong)

/-- 'laws.FnExactSunSlope': WHATEVER THE INPUT: true; the input reads as it did. -/
def fnExactSunSlopeSpec : ChangeSpec := { name := "fnExactSunSlope", fn := fun _ => fun
  | [d1, d2] => { results := [.lit (.bool true)], args := [d1, d2] }
  | _ => none }
def fnExactSunSlopeRow : OpenClaim := { program := "ytcmoilacjpldbaa", sum := "9afa03196a73a94dd6bbc614afa274f81f7900afaa72a8139b06ec5a9602dcae", func := "loop.example/g01351/laws.FnExactSunSlope", spec := "fnExactSunSlope", apart := false }
def FnExactSunSlopeSaid : Prop := fnExactSunSlopeRow.holds Try.pinned (OpenSpec.ofChange fnExactSunSlopeSpec)

/-- ITS FALSE NEIGHBOUR: 'it returns false'. Refute it at one input. -/
def fnExactSunSlopeWrong : ChangeSpec := { name := "fnExactSunSlope", fn := fun _ => fun
  | [d1, d2] => { results := [.lit (.bool false)], args := [d1, d2] }
  | _ => none }
def FnExactSunSlopeWrongFalsely : Prop := fnExactSunSlopeRow.holds Try.pinned (OpenSpec.ofChange fnExactSunSlopeWrong)

/-- 'laws.FnExactLampOfShadow': WHATEVER THE INPUT: true; the input reads as it did. -/
def fnExactLampOfShadowSpec : ChangeSpec := { name := "fnExactLampOfShadow", fn := fun _ => fun
  | [d1, d2] => { results := [.lit (.bool true)], args := [d1, d2] }
  | _ => none }
def fnExactLampOfShadowRow : OpenClaim := { program := "ytcmoilacjpldbaa", sum := "9afa03196a73a94dd6bbc614afa274f81f7900afaa72a8139b06ec5a9602dcae", func := "loop.example/g01351/laws.FnExactLampOfShadow", spec := "fnExactLampOfShadow", apart := false }
def FnExactLampOfShadowSaid : Prop := fnExactLampOfShadowRow.holds Try.pinned (OpenSpec.ofChange fnExactLampOfShadowSpec)

/-- ITS FALSE NEIGHBOUR: 'it returns false'. Refute it at one input. -/
def fnExactLampOfShadowWrong : ChangeSpec := { name := "fnExactLampOfShadow", fn := fun _ => fun
  | [d1, d2] => { results := [.lit (.bool false)], args := [d1, d2] }
  | _ => none }
def FnExactLampOfShadowWrongFalsely : Prop := fnExactLampOfShadowRow.holds Try.pinned (OpenSpec.ofChange fnExactLampOfShadowWrong)

/-- 'laws.FnExactPoleOfShadow': WHATEVER THE INPUT: true; the input reads as it did. -/
def fnExactPoleOfShadowSpec : ChangeSpec := { name := "fnExactPoleOfShadow", fn := fun _ => fun
  | [d1, d2, d3] => { results := [.lit (.bool true)], args := [d1, d2, d3] }
  | _ => none }
def fnExactPoleOfShadowRow : OpenClaim := { program := "ytcmoilacjpldbaa", sum := "9afa03196a73a94dd6bbc614afa274f81f7900afaa72a8139b06ec5a9602dcae", func := "loop.example/g01351/laws.FnExactPoleOfShadow", spec := "fnExactPoleOfShadow", apart := false }
def FnExactPoleOfShadowSaid : Prop := fnExactPoleOfShadowRow.holds Try.pinned (OpenSpec.ofChange fnExactPoleOfShadowSpec)

/-- ITS FALSE NEIGHBOUR: 'it returns false'. Refute it at one input. -/
def fnExactPoleOfShadowWrong : ChangeSpec := { name := "fnExactPoleOfShadow", fn := fun _ => fun
  | [d1, d2, d3] => { results := [.lit (.bool false)], args := [d1, d2, d3] }
  | _ => none }
def FnExactPoleOfShadowWrongFalsely : Prop := fnExactPoleOfShadowRow.holds Try.pinned (OpenSpec.ofChange fnExactPoleOfShadowWrong)

/-- 'laws.FnExactPlaceOfShadow': WHATEVER THE INPUT: true; the input reads as it did. -/
def fnExactPlaceOfShadowSpec : ChangeSpec := { name := "fnExactPlaceOfShadow", fn := fun _ => fun
  | [d1, d2, d3] => { results := [.lit (.bool true)], args := [d1, d2, d3] }
  | _ => none }
def fnExactPlaceOfShadowRow : OpenClaim := { program := "ytcmoilacjpldbaa", sum := "9afa03196a73a94dd6bbc614afa274f81f7900afaa72a8139b06ec5a9602dcae", func := "loop.example/g01351/laws.FnExactPlaceOfShadow", spec := "fnExactPlaceOfShadow", apart := false }
def FnExactPlaceOfShadowSaid : Prop := fnExactPlaceOfShadowRow.holds Try.pinned (OpenSpec.ofChange fnExactPlaceOfShadowSpec)

/-- ITS FALSE NEIGHBOUR: 'it returns false'. Refute it at one input. -/
def fnExactPlaceOfShadowWrong : ChangeSpec := { name := "fnExactPlaceOfShadow", fn := fun _ => fun
  | [d1, d2, d3] => { results := [.lit (.bool false)], args := [d1, d2, d3] }
  | _ => none }
def FnExactPlaceOfShadowWrongFalsely : Prop := fnExactPlaceOfShadowRow.holds Try.pinned (OpenSpec.ofChange fnExactPlaceOfShadowWrong)

/-- 'laws.FnExactHiddenHeight': WHATEVER THE INPUT: true; the input reads as it did. -/
def fnExactHiddenHeightSpec : ChangeSpec := { name := "fnExactHiddenHeight", fn := fun _ => fun
  | [d1, d2, d3] => { results := [.lit (.bool true)], args := [d1, d2, d3] }
  | _ => none }
def fnExactHiddenHeightRow : OpenClaim := { program := "ytcmoilacjpldbaa", sum := "9afa03196a73a94dd6bbc614afa274f81f7900afaa72a8139b06ec5a9602dcae", func := "loop.example/g01351/laws.FnExactHiddenHeight", spec := "fnExactHiddenHeight", apart := false }
def FnExactHiddenHeightSaid : Prop := fnExactHiddenHeightRow.holds Try.pinned (OpenSpec.ofChange fnExactHiddenHeightSpec)

/-- ITS FALSE NEIGHBOUR: 'it returns false'. Refute it at one input. -/
def fnExactHiddenHeightWrong : ChangeSpec := { name := "fnExactHiddenHeight", fn := fun _ => fun
  | [d1, d2, d3] => { results := [.lit (.bool false)], args := [d1, d2, d3] }
  | _ => none }
def FnExactHiddenHeightWrongFalsely : Prop := fnExactHiddenHeightRow.holds Try.pinned (OpenSpec.ofChange fnExactHiddenHeightWrong)

/-- 'laws.FnExactIsHidden': WHATEVER THE INPUT: true; the input reads as it did. -/
def fnExactIsHiddenSpec : ChangeSpec := { name := "fnExactIsHidden", fn := fun _ => fun
  | [d1, d2, d3] => { results := [.lit (.bool true)], args := [d1, d2, d3] }
  | _ => none }
def fnExactIsHiddenRow : OpenClaim := { program := "ytcmoilacjpldbaa", sum := "9afa03196a73a94dd6bbc614afa274f81f7900afaa72a8139b06ec5a9602dcae", func := "loop.example/g01351/laws.FnExactIsHidden", spec := "fnExactIsHidden", apart := false }
def FnExactIsHiddenSaid : Prop := fnExactIsHiddenRow.holds Try.pinned (OpenSpec.ofChange fnExactIsHiddenSpec)

/-- ITS FALSE NEIGHBOUR: 'it returns false'. Refute it at one input. -/
def fnExactIsHiddenWrong : ChangeSpec := { name := "fnExactIsHidden", fn := fun _ => fun
  | [d1, d2, d3] => { results := [.lit (.bool false)], args := [d1, d2, d3] }
  | _ => none }
def FnExactIsHiddenWrongFalsely : Prop := fnExactIsHiddenRow.holds Try.pinned (OpenSpec.ofChange fnExactIsHiddenWrong)

/-- 'laws.FnExactArePoles': WHATEVER THE INPUT: true; the input reads as it did. -/
def fnExactArePolesSpec : ChangeSpec := { name := "fnExactArePoles", fn := fun _ => fun
  | [d1, d2] => { results := [.lit (.bool true)], args := [d1, d2] }
  | _ => none }
def fnExactArePolesRow : OpenClaim := { program := "ytcmoilacjpldbaa", sum := "9afa03196a73a94dd6bbc614afa274f81f7900afaa72a8139b06ec5a9602dcae", func := "loop.example/g01351/laws.FnExactArePoles", spec := "fnExactArePoles", apart := false }
def FnExactArePolesSaid : Prop := fnExactArePolesRow.holds Try.pinned (OpenSpec.ofChange fnExactArePolesSpec)

/-- ITS FALSE NEIGHBOUR: 'it returns false'. Refute it at one input. -/
def fnExactArePolesWrong : ChangeSpec := { name := "fnExactArePoles", fn := fun _ => fun
  | [d1, d2] => { results := [.lit (.bool false)], args := [d1, d2] }
  | _ => none }
def FnExactArePolesWrongFalsely : Prop := fnExactArePolesRow.holds Try.pinned (OpenSpec.ofChange fnExactArePolesWrong)

/-- 'laws.FnExactDarkPlaces': WHATEVER THE INPUT: true; the input reads as it did. -/
def fnExactDarkPlacesSpec : ChangeSpec := { name := "fnExactDarkPlaces", fn := fun _ => fun
  | [d1, d2, d3] => { results := [.lit (.bool true)], args := [d1, d2, d3] }
  | _ => none }
def fnExactDarkPlacesRow : OpenClaim := { program := "ytcmoilacjpldbaa", sum := "9afa03196a73a94dd6bbc614afa274f81f7900afaa72a8139b06ec5a9602dcae", func := "loop.example/g01351/laws.FnExactDarkPlaces", spec := "fnExactDarkPlaces", apart := false }
def FnExactDarkPlacesSaid : Prop := fnExactDarkPlacesRow.holds Try.pinned (OpenSpec.ofChange fnExactDarkPlacesSpec)

/-- ITS FALSE NEIGHBOUR: 'it returns false'. Refute it at one input. -/
def fnExactDarkPlacesWrong : ChangeSpec := { name := "fnExactDarkPlaces", fn := fun _ => fun
  | [d1, d2, d3] => { results := [.lit (.bool false)], args := [d1, d2, d3] }
  | _ => none }
def FnExactDarkPlacesWrongFalsely : Prop := fnExactDarkPlacesRow.holds Try.pinned (OpenSpec.ofChange fnExactDarkPlacesWrong)

/-- 'laws.FnExactHiddenPoles': WHATEVER THE INPUT: true; the input reads as it did. -/
def fnExactHiddenPolesSpec : ChangeSpec := { name := "fnExactHiddenPoles", fn := fun _ => fun
  | [d1, d2] => { results := [.lit (.bool true)], args := [d1, d2] }
  | _ => none }
def fnExactHiddenPolesRow : OpenClaim := { program := "ytcmoilacjpldbaa", sum := "9afa03196a73a94dd6bbc614afa274f81f7900afaa72a8139b06ec5a9602dcae", func := "loop.example/g01351/laws.FnExactHiddenPoles", spec := "fnExactHiddenPoles", apart := false }
def FnExactHiddenPolesSaid : Prop := fnExactHiddenPolesRow.holds Try.pinned (OpenSpec.ofChange fnExactHiddenPolesSpec)

/-- ITS FALSE NEIGHBOUR: 'it returns false'. Refute it at one input. -/
def fnExactHiddenPolesWrong : ChangeSpec := { name := "fnExactHiddenPoles", fn := fun _ => fun
  | [d1, d2] => { results := [.lit (.bool false)], args := [d1, d2] }
  | _ => none }
def FnExactHiddenPolesWrongFalsely : Prop := fnExactHiddenPolesRow.holds Try.pinned (OpenSpec.ofChange fnExactHiddenPolesWrong)

/-- 'laws.FnExactLongestShadow': WHATEVER THE INPUT: true; the input reads as it did. -/
def fnExactLongestShadowSpec : ChangeSpec := { name := "fnExactLongestShadow", fn := fun _ => fun
  | [d1, d2] => { results := [.lit (.bool true)], args := [d1, d2] }
  | _ => none }
def fnExactLongestShadowRow : OpenClaim := { program := "ytcmoilacjpldbaa", sum := "9afa03196a73a94dd6bbc614afa274f81f7900afaa72a8139b06ec5a9602dcae", func := "loop.example/g01351/laws.FnExactLongestShadow", spec := "fnExactLongestShadow", apart := false }
def FnExactLongestShadowSaid : Prop := fnExactLongestShadowRow.holds Try.pinned (OpenSpec.ofChange fnExactLongestShadowSpec)

/-- ITS FALSE NEIGHBOUR: 'it returns false'. Refute it at one input. -/
def fnExactLongestShadowWrong : ChangeSpec := { name := "fnExactLongestShadow", fn := fun _ => fun
  | [d1, d2] => { results := [.lit (.bool false)], args := [d1, d2] }
  | _ => none }
def FnExactLongestShadowWrongFalsely : Prop := fnExactLongestShadowRow.holds Try.pinned (OpenSpec.ofChange fnExactLongestShadowWrong)

/-- 'laws.FnExactFarthestDark': WHATEVER THE INPUT: true; the input reads as it did. -/
def fnExactFarthestDarkSpec : ChangeSpec := { name := "fnExactFarthestDark", fn := fun _ => fun
  | [d1, d2] => { results := [.lit (.bool true)], args := [d1, d2] }
  | _ => none }
def fnExactFarthestDarkRow : OpenClaim := { program := "ytcmoilacjpldbaa", sum := "9afa03196a73a94dd6bbc614afa274f81f7900afaa72a8139b06ec5a9602dcae", func := "loop.example/g01351/laws.FnExactFarthestDark", spec := "fnExactFarthestDark", apart := false }
def FnExactFarthestDarkSaid : Prop := fnExactFarthestDarkRow.holds Try.pinned (OpenSpec.ofChange fnExactFarthestDarkSpec)

/-- ITS FALSE NEIGHBOUR: 'it returns false'. Refute it at one input. -/
def fnExactFarthestDarkWrong : ChangeSpec := { name := "fnExactFarthestDark", fn := fun _ => fun
  | [d1, d2] => { results := [.lit (.bool false)], args := [d1, d2] }
  | _ => none }
def FnExactFarthestDarkWrongFalsely : Prop := fnExactFarthestDarkRow.holds Try.pinned (OpenSpec.ofChange fnExactFarthestDarkWrong)

/-- 'laws.FnExactWholeShadows': WHATEVER THE INPUT: true; the input reads as it did. -/
def fnExactWholeShadowsSpec : ChangeSpec := { name := "fnExactWholeShadows", fn := fun _ => fun
  | [d] => { results := [.lit (.bool true)], args := [d] }
  | _ => none }
def fnExactWholeShadowsRow : OpenClaim := { program := "ytcmoilacjpldbaa", sum := "9afa03196a73a94dd6bbc614afa274f81f7900afaa72a8139b06ec5a9602dcae", func := "loop.example/g01351/laws.FnExactWholeShadows", spec := "fnExactWholeShadows", apart := false }
def FnExactWholeShadowsSaid : Prop := fnExactWholeShadowsRow.holds Try.pinned (OpenSpec.ofChange fnExactWholeShadowsSpec)

/-- ITS FALSE NEIGHBOUR: 'it returns false'. Refute it at one input. -/
def fnExactWholeShadowsWrong : ChangeSpec := { name := "fnExactWholeShadows", fn := fun _ => fun
  | [d] => { results := [.lit (.bool false)], args := [d] }
  | _ => none }
def FnExactWholeShadowsWrongFalsely : Prop := fnExactWholeShadowsRow.holds Try.pinned (OpenSpec.ofChange fnExactWholeShadowsWrong)

/- THE SECOND FORM. 'bulk': how many values and letters a reading holds, each counted each time it is reached (what is shared counts as often as it is met; a slice's spare places count too). A statement '..UptoSaid' is the law's where the arguments, and the package variables that the reading takes, are together of bulk at most 1048576: NARROWER than '..Said'. Prove '..Said' where nothing that the law and all that it calls make is longer than what came in: it says more and counts as full. Else prove '..UptoSaid'. A law counts once. -/
mutual
def uptoBulk {H : Type} : DataW H → Nat
  | .lit (.string bytes) => bytes.length + 1
  | .lit _ => 1
  | .nil => 1
  | .ptr d => uptoBulk d + 1
  | .slice elems spare => uptoBulkAll elems + uptoBulkAll spare + 1
  | .agg parts => uptoBulkAll parts + 1
  | .iface _ d => uptoBulk d + 1
  | .map entries => uptoBulkEntries entries + 1
  | .held _ => 1
def uptoBulkAll {H : Type} : List (DataW H) → Nat
  | [] => 0
  | d :: r => uptoBulk d + uptoBulkAll r
def uptoBulkEntries {H : Type} : List (Lit × DataW H) → Nat
  | [] => 0
  | x :: r => uptoBulkEntry x + uptoBulkEntries r
def uptoBulkEntry {H : Type} : Lit × DataW H → Nat
  | (.string bytes, d) => bytes.length + uptoBulk d + 1
  | (_, d) => uptoBulk d + 1
 end
def uptoSmall : (H : Type) → List (DataW H) → Bool := fun _ ds => decide (uptoBulkAll ds ≤ 1048576)
def OpenSpec.upto (s : _root_.Go.ChangeSpec) : _root_.Go.OpenSpec := { _root_.Go.OpenSpec.ofChange s with cond := some uptoSmall }

/-- 'laws.FnExactShadowLength', WHERE WHAT IT READS IS OF BULK AT MOST 1048576: true; the input reads as it did. -/
def fnExactShadowLengthUptoRow : OpenClaim := { program := "ytcmoilacjpldbaa", sum := "9afa03196a73a94dd6bbc614afa274f81f7900afaa72a8139b06ec5a9602dcae", func := "loop.example/g01351/laws.FnExactShadowLength", spec := "fnExactShadowLength", apart := false, narrowed := true }
def FnExactShadowLengthUptoSaid : Prop := fnExactShadowLengthUptoRow.holds Try.pinned (OpenSpec.upto fnExactShadowLengthSpec)

/-- 'laws.FnExactShadowEnd', WHERE WHAT IT READS IS OF BULK AT MOST 1048576: true; the input reads as it did. -/
def fnExactShadowEndUptoRow : OpenClaim := { program := "ytcmoilacjpldbaa", sum := "9afa03196a73a94dd6bbc614afa274f81f7900afaa72a8139b06ec5a9602dcae", func := "loop.example/g01351/laws.FnExactShadowEnd", spec := "fnExactShadowEnd", apart := false, narrowed := true }
def FnExactShadowEndUptoSaid : Prop := fnExactShadowEndUptoRow.holds Try.pinned (OpenSpec.upto fnExactShadowEndSpec)

/-- 'laws.FnExactShadowOnWall', WHERE WHAT IT READS IS OF BULK AT MOST 1048576: true; the input reads as it did. -/
def fnExactShadowOnWallUptoRow : OpenClaim := { program := "ytcmoilacjpldbaa", sum := "9afa03196a73a94dd6bbc614afa274f81f7900afaa72a8139b06ec5a9602dcae", func := "loop.example/g01351/laws.FnExactShadowOnWall", spec := "fnExactShadowOnWall", apart := false, narrowed := true }
def FnExactShadowOnWallUptoSaid : Prop := fnExactShadowOnWallUptoRow.holds Try.pinned (OpenSpec.upto fnExactShadowOnWallSpec)

/-- 'laws.FnExactSunShadow', WHERE WHAT IT READS IS OF BULK AT MOST 1048576: true; the input reads as it did. -/
def fnExactSunShadowUptoRow : OpenClaim := { program := "ytcmoilacjpldbaa", sum := "9afa03196a73a94dd6bbc614afa274f81f7900afaa72a8139b06ec5a9602dcae", func := "loop.example/g01351/laws.FnExactSunShadow", spec := "fnExactSunShadow", apart := false, narrowed := true }
def FnExactSunShadowUptoSaid : Prop := fnExactSunShadowUptoRow.holds Try.pinned (OpenSpec.upto fnExactSunShadowSpec)

/-- 'laws.FnExactSunSlope', WHERE WHAT IT READS IS OF BULK AT MOST 1048576: true; the input reads as it did. -/
def fnExactSunSlopeUptoRow : OpenClaim := { program := "ytcmoilacjpldbaa", sum := "9afa03196a73a94dd6bbc614afa274f81f7900afaa72a8139b06ec5a9602dcae", func := "loop.example/g01351/laws.FnExactSunSlope", spec := "fnExactSunSlope", apart := false, narrowed := true }
def FnExactSunSlopeUptoSaid : Prop := fnExactSunSlopeUptoRow.holds Try.pinned (OpenSpec.upto fnExactSunSlopeSpec)

/-- 'laws.FnExactLampOfShadow', WHERE WHAT IT READS IS OF BULK AT MOST 1048576: true; the input reads as it did. -/
def fnExactLampOfShadowUptoRow : OpenClaim := { program := "ytcmoilacjpldbaa", sum := "9afa03196a73a94dd6bbc614afa274f81f7900afaa72a8139b06ec5a9602dcae", func := "loop.example/g01351/laws.FnExactLampOfShadow", spec := "fnExactLampOfShadow", apart := false, narrowed := true }
def FnExactLampOfShadowUptoSaid : Prop := fnExactLampOfShadowUptoRow.holds Try.pinned (OpenSpec.upto fnExactLampOfShadowSpec)

/-- 'laws.FnExactPoleOfShadow', WHERE WHAT IT READS IS OF BULK AT MOST 1048576: true; the input reads as it did. -/
def fnExactPoleOfShadowUptoRow : OpenClaim := { program := "ytcmoilacjpldbaa", sum := "9afa03196a73a94dd6bbc614afa274f81f7900afaa72a8139b06ec5a9602dcae", func := "loop.example/g01351/laws.FnExactPoleOfShadow", spec := "fnExactPoleOfShadow", apart := false, narrowed := true }
def FnExactPoleOfShadowUptoSaid : Prop := fnExactPoleOfShadowUptoRow.holds Try.pinned (OpenSpec.upto fnExactPoleOfShadowSpec)

/-- 'laws.FnExactPlaceOfShadow', WHERE WHAT IT READS IS OF BULK AT MOST 1048576: true; the input reads as it did. -/
def fnExactPlaceOfShadowUptoRow : OpenClaim := { program := "ytcmoilacjpldbaa", sum := "9afa03196a73a94dd6bbc614afa274f81f7900afaa72a8139b06ec5a9602dcae", func := "loop.example/g01351/laws.FnExactPlaceOfShadow", spec := "fnExactPlaceOfShadow", apart := false, narrowed := true }
def FnExactPlaceOfShadowUptoSaid : Prop := fnExactPlaceOfShadowUptoRow.holds Try.pinned (OpenSpec.upto fnExactPlaceOfShadowSpec)

/-- 'laws.FnExactHiddenHeight', WHERE WHAT IT READS IS OF BULK AT MOST 1048576: true; the input reads as it did. -/
def fnExactHiddenHeightUptoRow : OpenClaim := { program := "ytcmoilacjpldbaa", sum := "9afa03196a73a94dd6bbc614afa274f81f7900afaa72a8139b06ec5a9602dcae", func := "loop.example/g01351/laws.FnExactHiddenHeight", spec := "fnExactHiddenHeight", apart := false, narrowed := true }
def FnExactHiddenHeightUptoSaid : Prop := fnExactHiddenHeightUptoRow.holds Try.pinned (OpenSpec.upto fnExactHiddenHeightSpec)

/-- 'laws.FnExactIsHidden', WHERE WHAT IT READS IS OF BULK AT MOST 1048576: true; the input reads as it did. -/
def fnExactIsHiddenUptoRow : OpenClaim := { program := "ytcmoilacjpldbaa", sum := "9afa03196a73a94dd6bbc614afa274f81f7900afaa72a8139b06ec5a9602dcae", func := "loop.example/g01351/laws.FnExactIsHidden", spec := "fnExactIsHidden", apart := false, narrowed := true }
def FnExactIsHiddenUptoSaid : Prop := fnExactIsHiddenUptoRow.holds Try.pinned (OpenSpec.upto fnExactIsHiddenSpec)

/-- 'laws.FnExactArePoles', WHERE WHAT IT READS IS OF BULK AT MOST 1048576: true; the input reads as it did. -/
def fnExactArePolesUptoRow : OpenClaim := { program := "ytcmoilacjpldbaa", sum := "9afa03196a73a94dd6bbc614afa274f81f7900afaa72a8139b06ec5a9602dcae", func := "loop.example/g01351/laws.FnExactArePoles", spec := "fnExactArePoles", apart := false, narrowed := true }
def FnExactArePolesUptoSaid : Prop := fnExactArePolesUptoRow.holds Try.pinned (OpenSpec.upto fnExactArePolesSpec)

/-- 'laws.FnExactDarkPlaces', WHERE WHAT IT READS IS OF BULK AT MOST 1048576: true; the input reads as it did. -/
def fnExactDarkPlacesUptoRow : OpenClaim := { program := "ytcmoilacjpldbaa", sum := "9afa03196a73a94dd6bbc614afa274f81f7900afaa72a8139b06ec5a9602dcae", func := "loop.example/g01351/laws.FnExactDarkPlaces", spec := "fnExactDarkPlaces", apart := false, narrowed := true }
def FnExactDarkPlacesUptoSaid : Prop := fnExactDarkPlacesUptoRow.holds Try.pinned (OpenSpec.upto fnExactDarkPlacesSpec)

/-- 'laws.FnExactHiddenPoles', WHERE WHAT IT READS IS OF BULK AT MOST 1048576: true; the input reads as it did. -/
def fnExactHiddenPolesUptoRow : OpenClaim := { program := "ytcmoilacjpldbaa", sum := "9afa03196a73a94dd6bbc614afa274f81f7900afaa72a8139b06ec5a9602dcae", func := "loop.example/g01351/laws.FnExactHiddenPoles", spec := "fnExactHiddenPoles", apart := false, narrowed := true }
def FnExactHiddenPolesUptoSaid : Prop := fnExactHiddenPolesUptoRow.holds Try.pinned (OpenSpec.upto fnExactHiddenPolesSpec)

/-- 'laws.FnExactLongestShadow', WHERE WHAT IT READS IS OF BULK AT MOST 1048576: true; the input reads as it did. -/
def fnExactLongestShadowUptoRow : OpenClaim := { program := "ytcmoilacjpldbaa", sum := "9afa03196a73a94dd6bbc614afa274f81f7900afaa72a8139b06ec5a9602dcae", func := "loop.example/g01351/laws.FnExactLongestShadow", spec := "fnExactLongestShadow", apart := false, narrowed := true }
def FnExactLongestShadowUptoSaid : Prop := fnExactLongestShadowUptoRow.holds Try.pinned (OpenSpec.upto fnExactLongestShadowSpec)

/-- 'laws.FnExactFarthestDark', WHERE WHAT IT READS IS OF BULK AT MOST 1048576: true; the input reads as it did. -/
def fnExactFarthestDarkUptoRow : OpenClaim := { program := "ytcmoilacjpldbaa", sum := "9afa03196a73a94dd6bbc614afa274f81f7900afaa72a8139b06ec5a9602dcae", func := "loop.example/g01351/laws.FnExactFarthestDark", spec := "fnExactFarthestDark", apart := false, narrowed := true }
def FnExactFarthestDarkUptoSaid : Prop := fnExactFarthestDarkUptoRow.holds Try.pinned (OpenSpec.upto fnExactFarthestDarkSpec)

/-- 'laws.FnExactWholeShadows', WHERE WHAT IT READS IS OF BULK AT MOST 1048576: true; the input reads as it did. -/
def fnExactWholeShadowsUptoRow : OpenClaim := { program := "ytcmoilacjpldbaa", sum := "9afa03196a73a94dd6bbc614afa274f81f7900afaa72a8139b06ec5a9602dcae", func := "loop.example/g01351/laws.FnExactWholeShadows", spec := "fnExactWholeShadows", apart := false, narrowed := true }
def FnExactWholeShadowsUptoSaid : Prop := fnExactWholeShadowsUptoRow.holds Try.pinned (OpenSpec.upto fnExactWholeShadowsSpec)

end Rows
end Go.Proofs.Ytcmoilacjpldbaa

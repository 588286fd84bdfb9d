/-
  No cell of these rows narrows 'for every input' (looked for: loops, veiled, ifaces, maps, wideKeys, modest, calm, conditions, laid).
  DERIVED. THE GIVEN ROWS OF THIS SEAT. 18 by the template 'for every input the law returns true; each argument reads behind the call as it read before'; 0 by the template 'total and deterministic' (their statements: YtfcllmlecnffdaaTotals.lean).
  GIVEN WITH THE SEED: the statements are not yours to turn. If you find one false, say at which input.
  Laid BY PROGRAM, IN A SANDBOX (cutbox-rows.mjs): the forced cells as the released guide's own fill.sh prints them over the translation 17d1767543fe52cb… (all of the seat's roots in one cut). By AI agents, Wed Nov 11 2026. No macro, syntax, notation, axiom, sorry.
-/
import Derived.Test.YtfcllmlecnffdaaChecked
import GoSem.Claim
import GoSem.ClaimJoined
import GoSem.ClaimMapViews
import Derived.JoinedTies
import Derived.KernelRfl
namespace Go.Proofs.Ytfcllmlecnffdaa
/- THE CELL 'sum', in the pinned program and in every row, IS THE sha256 OF THE DUMP (.gsa) THAT YtfcllmlecnffdaaProg.lean LOADS. Nothing in Lean hashes anything: it is a label: what it is worth is what the hold of that sum in a sandbox is worth. -/
noncomputable def Try.pinned : Pinned := { name := "ytfcllmlecnffdaa", sum := "17d1767543fe52cbc76c44f44af7bdab3abde4300ce8dd9692955a883542a9e6", checked := Try.checked }
namespace Rows
def none {H : Type} : Left H := { results := [], args := [] }

/-- 'laws.FnExactImageAfter': WHATEVER THE INPUT: true; the input reads as it did. -/
def fnExactImageAfterSpec : ChangeSpec := { name := "fnExactImageAfter", fn := fun _ => fun
  | [d1, d2, d3] => { results := [.lit (.bool true)], args := [d1, d2, d3] }
  | _ => none }
def fnExactImageAfterRow : OpenClaim := { program := "ytfcllmlecnffdaa", sum := "17d1767543fe52cbc76c44f44af7bdab3abde4300ce8dd9692955a883542a9e6", func := "loop.example/g01351/laws.FnExactImageAfter", spec := "fnExactImageAfter", apart := false }
def FnExactImageAfterSaid : Prop := fnExactImageAfterRow.holds Try.pinned (OpenSpec.ofChange fnExactImageAfterSpec)

/-- ITS FALSE NEIGHBOUR: 'it returns false'. Refute it at one input. -/
def fnExactImageAfterWrong : ChangeSpec := { name := "fnExactImageAfter", fn := fun _ => fun
  | [d1, d2, d3] => { results := [.lit (.bool false)], args := [d1, d2, d3] }
  | _ => none }
def FnExactImageAfterWrongFalsely : Prop := fnExactImageAfterRow.holds Try.pinned (OpenSpec.ofChange fnExactImageAfterWrong)

/-- 'laws.FnExactImagesUpTo': WHATEVER THE INPUT: true; the input reads as it did. -/
def fnExactImagesUpToSpec : ChangeSpec := { name := "fnExactImagesUpTo", fn := fun _ => fun
  | [d1, d2, d3] => { results := [.lit (.bool true)], args := [d1, d2, d3] }
  | _ => none }
def fnExactImagesUpToRow : OpenClaim := { program := "ytfcllmlecnffdaa", sum := "17d1767543fe52cbc76c44f44af7bdab3abde4300ce8dd9692955a883542a9e6", func := "loop.example/g01351/laws.FnExactImagesUpTo", spec := "fnExactImagesUpTo", unfollowed := true, recurses := true, leaving := true, apart := false }
def FnExactImagesUpToSaid : Prop := fnExactImagesUpToRow.holds Try.pinned (OpenSpec.ofChange fnExactImagesUpToSpec)

/-- ITS FALSE NEIGHBOUR: 'it returns false'. Refute it at one input. -/
def fnExactImagesUpToWrong : ChangeSpec := { name := "fnExactImagesUpTo", fn := fun _ => fun
  | [d1, d2, d3] => { results := [.lit (.bool false)], args := [d1, d2, d3] }
  | _ => none }
def FnExactImagesUpToWrongFalsely : Prop := fnExactImagesUpToRow.holds Try.pinned (OpenSpec.ofChange fnExactImagesUpToWrong)

/-- 'laws.FnExactWordOfImage': WHATEVER THE INPUT: true; the input reads as it did. -/
def fnExactWordOfImageSpec : ChangeSpec := { name := "fnExactWordOfImage", fn := fun _ => fun
  | [d1, d2, d3] => { results := [.lit (.bool true)], args := [d1, d2, d3] }
  | _ => none }
def fnExactWordOfImageRow : OpenClaim := { program := "ytfcllmlecnffdaa", sum := "17d1767543fe52cbc76c44f44af7bdab3abde4300ce8dd9692955a883542a9e6", func := "loop.example/g01351/laws.FnExactWordOfImage", spec := "fnExactWordOfImage", unfollowed := true, recurses := true, leaving := true, apart := false }
def FnExactWordOfImageSaid : Prop := fnExactWordOfImageRow.holds Try.pinned (OpenSpec.ofChange fnExactWordOfImageSpec)

/-- ITS FALSE NEIGHBOUR: 'it returns false'. Refute it at one input. -/
def fnExactWordOfImageWrong : ChangeSpec := { name := "fnExactWordOfImage", fn := fun _ => fun
  | [d1, d2, d3] => { results := [.lit (.bool false)], args := [d1, d2, d3] }
  | _ => none }
def FnExactWordOfImageWrongFalsely : Prop := fnExactWordOfImageRow.holds Try.pinned (OpenSpec.ofChange fnExactWordOfImageWrong)

/-- 'laws.FnExactCountNear': WHATEVER THE INPUT: true; the input reads as it did. -/
def fnExactCountNearSpec : ChangeSpec := { name := "fnExactCountNear", fn := fun _ => fun
  | [d1, d2, d3, d4] => { results := [.lit (.bool true)], args := [d1, d2, d3, d4] }
  | _ => none }
def fnExactCountNearRow : OpenClaim := { program := "ytfcllmlecnffdaa", sum := "17d1767543fe52cbc76c44f44af7bdab3abde4300ce8dd9692955a883542a9e6", func := "loop.example/g01351/laws.FnExactCountNear", spec := "fnExactCountNear", unfollowed := true, recurses := true, leaving := true, apart := false }
def FnExactCountNearSaid : Prop := fnExactCountNearRow.holds Try.pinned (OpenSpec.ofChange fnExactCountNearSpec)

/-- ITS FALSE NEIGHBOUR: 'it returns false'. Refute it at one input. -/
def fnExactCountNearWrong : ChangeSpec := { name := "fnExactCountNear", fn := fun _ => fun
  | [d1, d2, d3, d4] => { results := [.lit (.bool false)], args := [d1, d2, d3, d4] }
  | _ => none }
def FnExactCountNearWrongFalsely : Prop := fnExactCountNearRow.holds Try.pinned (OpenSpec.ofChange fnExactCountNearWrong)

/-- 'laws.FnExactNearestImage': WHATEVER THE INPUT: true; the input reads as it did. -/
def fnExactNearestImageSpec : ChangeSpec := { name := "fnExactNearestImage", fn := fun _ => fun
  | [d1, d2, d3] => { results := [.lit (.bool true)], args := [d1, d2, d3] }
  | _ => none }
def fnExactNearestImageRow : OpenClaim := { program := "ytfcllmlecnffdaa", sum := "17d1767543fe52cbc76c44f44af7bdab3abde4300ce8dd9692955a883542a9e6", func := "loop.example/g01351/laws.FnExactNearestImage", spec := "fnExactNearestImage", unfollowed := true, recurses := true, leaving := true, apart := false }
def FnExactNearestImageSaid : Prop := fnExactNearestImageRow.holds Try.pinned (OpenSpec.ofChange fnExactNearestImageSpec)

/-- ITS FALSE NEIGHBOUR: 'it returns false'. Refute it at one input. -/
def fnExactNearestImageWrong : ChangeSpec := { name := "fnExactNearestImage", fn := fun _ => fun
  | [d1, d2, d3] => { results := [.lit (.bool false)], args := [d1, d2, d3] }
  | _ => none }
def FnExactNearestImageWrongFalsely : Prop := fnExactNearestImageRow.holds Try.pinned (OpenSpec.ofChange fnExactNearestImageWrong)

/-- 'laws.FnExactFarthestOf': WHATEVER THE INPUT: true; the input reads as it did. -/
def fnExactFarthestOfSpec : ChangeSpec := { name := "fnExactFarthestOf", fn := fun _ => fun
  | [d1, d2, d3, d4] => { results := [.lit (.bool true)], args := [d1, d2, d3, d4] }
  | _ => none }
def fnExactFarthestOfRow : OpenClaim := { program := "ytfcllmlecnffdaa", sum := "17d1767543fe52cbc76c44f44af7bdab3abde4300ce8dd9692955a883542a9e6", func := "loop.example/g01351/laws.FnExactFarthestOf", spec := "fnExactFarthestOf", unfollowed := true, recurses := true, leaving := true, apart := false }
def FnExactFarthestOfSaid : Prop := fnExactFarthestOfRow.holds Try.pinned (OpenSpec.ofChange fnExactFarthestOfSpec)

/-- ITS FALSE NEIGHBOUR: 'it returns false'. Refute it at one input. -/
def fnExactFarthestOfWrong : ChangeSpec := { name := "fnExactFarthestOf", fn := fun _ => fun
  | [d1, d2, d3, d4] => { results := [.lit (.bool false)], args := [d1, d2, d3, d4] }
  | _ => none }
def FnExactFarthestOfWrongFalsely : Prop := fnExactFarthestOfRow.holds Try.pinned (OpenSpec.ofChange fnExactFarthestOfWrong)

/-- 'laws.FnExactWedgeImages': WHATEVER THE INPUT: true; the input reads as it did. -/
def fnExactWedgeImagesSpec : ChangeSpec := { name := "fnExactWedgeImages", fn := fun _ => fun
  | [d1, d2] => { results := [.lit (.bool true)], args := [d1, d2] }
  | _ => none }
def fnExactWedgeImagesRow : OpenClaim := { program := "ytfcllmlecnffdaa", sum := "17d1767543fe52cbc76c44f44af7bdab3abde4300ce8dd9692955a883542a9e6", func := "loop.example/g01351/laws.FnExactWedgeImages", spec := "fnExactWedgeImages", unfollowed := true, recurses := true, leaving := true, apart := false }
def FnExactWedgeImagesSaid : Prop := fnExactWedgeImagesRow.holds Try.pinned (OpenSpec.ofChange fnExactWedgeImagesSpec)

/-- ITS FALSE NEIGHBOUR: 'it returns false'. Refute it at one input. -/
def fnExactWedgeImagesWrong : ChangeSpec := { name := "fnExactWedgeImages", fn := fun _ => fun
  | [d1, d2] => { results := [.lit (.bool false)], args := [d1, d2] }
  | _ => none }
def FnExactWedgeImagesWrongFalsely : Prop := fnExactWedgeImagesRow.holds Try.pinned (OpenSpec.ofChange fnExactWedgeImagesWrong)

/-- 'laws.FnExactCountWedge': WHATEVER THE INPUT: true; the input reads as it did. -/
def fnExactCountWedgeSpec : ChangeSpec := { name := "fnExactCountWedge", fn := fun _ => fun
  | [d1, d2] => { results := [.lit (.bool true)], args := [d1, d2] }
  | _ => none }
def fnExactCountWedgeRow : OpenClaim := { program := "ytfcllmlecnffdaa", sum := "17d1767543fe52cbc76c44f44af7bdab3abde4300ce8dd9692955a883542a9e6", func := "loop.example/g01351/laws.FnExactCountWedge", spec := "fnExactCountWedge", apart := false }
def FnExactCountWedgeSaid : Prop := fnExactCountWedgeRow.holds Try.pinned (OpenSpec.ofChange fnExactCountWedgeSpec)

/-- ITS FALSE NEIGHBOUR: 'it returns false'. Refute it at one input. -/
def fnExactCountWedgeWrong : ChangeSpec := { name := "fnExactCountWedge", fn := fun _ => fun
  | [d1, d2] => { results := [.lit (.bool false)], args := [d1, d2] }
  | _ => none }
def FnExactCountWedgeWrongFalsely : Prop := fnExactCountWedgeRow.holds Try.pinned (OpenSpec.ofChange fnExactCountWedgeWrong)

/-- 'laws.FnExactWedgeSteps': WHATEVER THE INPUT: true; the input reads as it did. -/
def fnExactWedgeStepsSpec : ChangeSpec := { name := "fnExactWedgeSteps", fn := fun _ => fun
  | [d1, d2, d3] => { results := [.lit (.bool true)], args := [d1, d2, d3] }
  | _ => none }
def fnExactWedgeStepsRow : OpenClaim := { program := "ytfcllmlecnffdaa", sum := "17d1767543fe52cbc76c44f44af7bdab3abde4300ce8dd9692955a883542a9e6", func := "loop.example/g01351/laws.FnExactWedgeSteps", spec := "fnExactWedgeSteps", unfollowed := true, recurses := true, leaving := true, apart := false }
def FnExactWedgeStepsSaid : Prop := fnExactWedgeStepsRow.holds Try.pinned (OpenSpec.ofChange fnExactWedgeStepsSpec)

/-- ITS FALSE NEIGHBOUR: 'it returns false'. Refute it at one input. -/
def fnExactWedgeStepsWrong : ChangeSpec := { name := "fnExactWedgeSteps", fn := fun _ => fun
  | [d1, d2, d3] => { results := [.lit (.bool false)], args := [d1, d2, d3] }
  | _ => none }
def FnExactWedgeStepsWrongFalsely : Prop := fnExactWedgeStepsRow.holds Try.pinned (OpenSpec.ofChange fnExactWedgeStepsWrong)

/-- 'laws.FnExactAnglesFor': WHATEVER THE INPUT: true; the input reads as it did. -/
def fnExactAnglesForSpec : ChangeSpec := { name := "fnExactAnglesFor", fn := fun _ => fun
  | [d] => { results := [.lit (.bool true)], args := [d] }
  | _ => none }
def fnExactAnglesForRow : OpenClaim := { program := "ytfcllmlecnffdaa", sum := "17d1767543fe52cbc76c44f44af7bdab3abde4300ce8dd9692955a883542a9e6", func := "loop.example/g01351/laws.FnExactAnglesFor", spec := "fnExactAnglesFor", apart := false }
def FnExactAnglesForSaid : Prop := fnExactAnglesForRow.holds Try.pinned (OpenSpec.ofChange fnExactAnglesForSpec)

/-- ITS FALSE NEIGHBOUR: 'it returns false'. Refute it at one input. -/
def fnExactAnglesForWrong : ChangeSpec := { name := "fnExactAnglesFor", fn := fun _ => fun
  | [d] => { results := [.lit (.bool false)], args := [d] }
  | _ => none }
def FnExactAnglesForWrongFalsely : Prop := fnExactAnglesForRow.holds Try.pinned (OpenSpec.ofChange fnExactAnglesForWrong)

/-- 'laws.FnExactMirrorFor': WHATEVER THE INPUT: true; the input reads as it did. -/
def fnExactMirrorForSpec : ChangeSpec := { name := "fnExactMirrorFor", fn := fun _ => fun
  | [d1, d2] => { results := [.lit (.bool true)], args := [d1, d2] }
  | _ => none }
def fnExactMirrorForRow : OpenClaim := { program := "ytfcllmlecnffdaa", sum := "17d1767543fe52cbc76c44f44af7bdab3abde4300ce8dd9692955a883542a9e6", func := "loop.example/g01351/laws.FnExactMirrorFor", spec := "fnExactMirrorFor", apart := false }
def FnExactMirrorForSaid : Prop := fnExactMirrorForRow.holds Try.pinned (OpenSpec.ofChange fnExactMirrorForSpec)

/-- ITS FALSE NEIGHBOUR: 'it returns false'. Refute it at one input. -/
def fnExactMirrorForWrong : ChangeSpec := { name := "fnExactMirrorFor", fn := fun _ => fun
  | [d1, d2] => { results := [.lit (.bool false)], args := [d1, d2] }
  | _ => none }
def FnExactMirrorForWrongFalsely : Prop := fnExactMirrorForRow.holds Try.pinned (OpenSpec.ofChange fnExactMirrorForWrong)

/-- 'laws.FnExactCanSeeAll': WHATEVER THE INPUT: true; the input reads as it did. -/
def fnExactCanSeeAllSpec : ChangeSpec := { name := "fnExactCanSeeAll", fn := fun _ => fun
  | [d1, d2, d3, d4] => { results := [.lit (.bool true)], args := [d1, d2, d3, d4] }
  | _ => none }
def fnExactCanSeeAllRow : OpenClaim := { program := "ytfcllmlecnffdaa", sum := "17d1767543fe52cbc76c44f44af7bdab3abde4300ce8dd9692955a883542a9e6", func := "loop.example/g01351/laws.FnExactCanSeeAll", spec := "fnExactCanSeeAll", apart := false }
def FnExactCanSeeAllSaid : Prop := fnExactCanSeeAllRow.holds Try.pinned (OpenSpec.ofChange fnExactCanSeeAllSpec)

/-- ITS FALSE NEIGHBOUR: 'it returns false'. Refute it at one input. -/
def fnExactCanSeeAllWrong : ChangeSpec := { name := "fnExactCanSeeAll", fn := fun _ => fun
  | [d1, d2, d3, d4] => { results := [.lit (.bool false)], args := [d1, d2, d3, d4] }
  | _ => none }
def FnExactCanSeeAllWrongFalsely : Prop := fnExactCanSeeAllRow.holds Try.pinned (OpenSpec.ofChange fnExactCanSeeAllWrong)

/-- 'laws.FnExactSeenOfPerson': WHATEVER THE INPUT: true; the input reads as it did. -/
def fnExactSeenOfPersonSpec : ChangeSpec := { name := "fnExactSeenOfPerson", fn := fun _ => fun
  | [d1, d2, d3, d4] => { results := [.lit (.bool true)], args := [d1, d2, d3, d4] }
  | _ => none }
def fnExactSeenOfPersonRow : OpenClaim := { program := "ytfcllmlecnffdaa", sum := "17d1767543fe52cbc76c44f44af7bdab3abde4300ce8dd9692955a883542a9e6", func := "loop.example/g01351/laws.FnExactSeenOfPerson", spec := "fnExactSeenOfPerson", apart := false }
def FnExactSeenOfPersonSaid : Prop := fnExactSeenOfPersonRow.holds Try.pinned (OpenSpec.ofChange fnExactSeenOfPersonSpec)

/-- ITS FALSE NEIGHBOUR: 'it returns false'. Refute it at one input. -/
def fnExactSeenOfPersonWrong : ChangeSpec := { name := "fnExactSeenOfPerson", fn := fun _ => fun
  | [d1, d2, d3, d4] => { results := [.lit (.bool false)], args := [d1, d2, d3, d4] }
  | _ => none }
def FnExactSeenOfPersonWrongFalsely : Prop := fnExactSeenOfPersonRow.holds Try.pinned (OpenSpec.ofChange fnExactSeenOfPersonWrong)

/-- 'laws.FnExactLookedAt': WHATEVER THE INPUT: true; the input reads as it did. -/
def fnExactLookedAtSpec : ChangeSpec := { name := "fnExactLookedAt", fn := fun _ => fun
  | [d1, d2] => { results := [.lit (.bool true)], args := [d1, d2] }
  | _ => none }
def fnExactLookedAtRow : OpenClaim := { program := "ytfcllmlecnffdaa", sum := "17d1767543fe52cbc76c44f44af7bdab3abde4300ce8dd9692955a883542a9e6", func := "loop.example/g01351/laws.FnExactLookedAt", spec := "fnExactLookedAt", apart := false }
def FnExactLookedAtSaid : Prop := fnExactLookedAtRow.holds Try.pinned (OpenSpec.ofChange fnExactLookedAtSpec)

/-- ITS FALSE NEIGHBOUR: 'it returns false'. Refute it at one input. -/
def fnExactLookedAtWrong : ChangeSpec := { name := "fnExactLookedAt", fn := fun _ => fun
  | [d1, d2] => { results := [.lit (.bool false)], args := [d1, d2] }
  | _ => none }
def FnExactLookedAtWrongFalsely : Prop := fnExactLookedAtRow.holds Try.pinned (OpenSpec.ofChange fnExactLookedAtWrong)

/-- 'laws.FnExactLookSquare': WHATEVER THE INPUT: true; the input reads as it did. -/
def fnExactLookSquareSpec : ChangeSpec := { name := "fnExactLookSquare", fn := fun _ => fun
  | [d1, d2] => { results := [.lit (.bool true)], args := [d1, d2] }
  | _ => none }
def fnExactLookSquareRow : OpenClaim := { program := "ytfcllmlecnffdaa", sum := "17d1767543fe52cbc76c44f44af7bdab3abde4300ce8dd9692955a883542a9e6", func := "loop.example/g01351/laws.FnExactLookSquare", spec := "fnExactLookSquare", apart := false }
def FnExactLookSquareSaid : Prop := fnExactLookSquareRow.holds Try.pinned (OpenSpec.ofChange fnExactLookSquareSpec)

/-- ITS FALSE NEIGHBOUR: 'it returns false'. Refute it at one input. -/
def fnExactLookSquareWrong : ChangeSpec := { name := "fnExactLookSquare", fn := fun _ => fun
  | [d1, d2] => { results := [.lit (.bool false)], args := [d1, d2] }
  | _ => none }
def FnExactLookSquareWrongFalsely : Prop := fnExactLookSquareRow.holds Try.pinned (OpenSpec.ofChange fnExactLookSquareWrong)

/-- 'laws.FnExactSeesIn': WHATEVER THE INPUT: true; the input reads as it did. -/
def fnExactSeesInSpec : ChangeSpec := { name := "fnExactSeesIn", fn := fun _ => fun
  | [d1, d2, d3, d4] => { results := [.lit (.bool true)], args := [d1, d2, d3, d4] }
  | _ => none }
def fnExactSeesInRow : OpenClaim := { program := "ytfcllmlecnffdaa", sum := "17d1767543fe52cbc76c44f44af7bdab3abde4300ce8dd9692955a883542a9e6", func := "loop.example/g01351/laws.FnExactSeesIn", spec := "fnExactSeesIn", apart := false }
def FnExactSeesInSaid : Prop := fnExactSeesInRow.holds Try.pinned (OpenSpec.ofChange fnExactSeesInSpec)

/-- ITS FALSE NEIGHBOUR: 'it returns false'. Refute it at one input. -/
def fnExactSeesInWrong : ChangeSpec := { name := "fnExactSeesIn", fn := fun _ => fun
  | [d1, d2, d3, d4] => { results := [.lit (.bool false)], args := [d1, d2, d3, d4] }
  | _ => none }
def FnExactSeesInWrongFalsely : Prop := fnExactSeesInRow.holds Try.pinned (OpenSpec.ofChange fnExactSeesInWrong)

/-- 'laws.FnExactSeenIn': WHATEVER THE INPUT: true; the input reads as it did. -/
def fnExactSeenInSpec : ChangeSpec := { name := "fnExactSeenIn", fn := fun _ => fun
  | [d1, d2, d3, d4] => { results := [.lit (.bool true)], args := [d1, d2, d3, d4] }
  | _ => none }
def fnExactSeenInRow : OpenClaim := { program := "ytfcllmlecnffdaa", sum := "17d1767543fe52cbc76c44f44af7bdab3abde4300ce8dd9692955a883542a9e6", func := "loop.example/g01351/laws.FnExactSeenIn", spec := "fnExactSeenIn", apart := false }
def FnExactSeenInSaid : Prop := fnExactSeenInRow.holds Try.pinned (OpenSpec.ofChange fnExactSeenInSpec)

/-- ITS FALSE NEIGHBOUR: 'it returns false'. Refute it at one input. -/
def fnExactSeenInWrong : ChangeSpec := { name := "fnExactSeenIn", fn := fun _ => fun
  | [d1, d2, d3, d4] => { results := [.lit (.bool false)], args := [d1, d2, d3, d4] }
  | _ => none }
def FnExactSeenInWrongFalsely : Prop := fnExactSeenInRow.holds Try.pinned (OpenSpec.ofChange fnExactSeenInWrong)

/-- 'laws.FnExactLeastMirrorFor': WHATEVER THE INPUT: true; the input reads as it did. -/
def fnExactLeastMirrorForSpec : ChangeSpec := { name := "fnExactLeastMirrorFor", fn := fun _ => fun
  | [d1, d2] => { results := [.lit (.bool true)], args := [d1, d2] }
  | _ => none }
def fnExactLeastMirrorForRow : OpenClaim := { program := "ytfcllmlecnffdaa", sum := "17d1767543fe52cbc76c44f44af7bdab3abde4300ce8dd9692955a883542a9e6", func := "loop.example/g01351/laws.FnExactLeastMirrorFor", spec := "fnExactLeastMirrorFor", apart := false }
def FnExactLeastMirrorForSaid : Prop := fnExactLeastMirrorForRow.holds Try.pinned (OpenSpec.ofChange fnExactLeastMirrorForSpec)

/-- ITS FALSE NEIGHBOUR: 'it returns false'. Refute it at one input. -/
def fnExactLeastMirrorForWrong : ChangeSpec := { name := "fnExactLeastMirrorFor", fn := fun _ => fun
  | [d1, d2] => { results := [.lit (.bool false)], args := [d1, d2] }
  | _ => none }
def FnExactLeastMirrorForWrongFalsely : Prop := fnExactLeastMirrorForRow.holds Try.pinned (OpenSpec.ofChange fnExactLeastMirrorForWrong)

/- THE SECOND FORM. 'bulk': how many values and letters a reading holds, each counted each time it is reached (what is shared counts as often as it is met; a slice's spare places count too). A statement '..UptoSaid' is the law's where the arguments, and the package variables that the reading takes, are together of bulk at most 1048576: NARROWER than '..Said'. Prove '..Said' where nothing that the law and all that it calls make is longer than what came in: it says more and counts as full. Else prove '..UptoSaid'. A law counts once. -/
mutual
def uptoBulk {H : Type} : DataW H → Nat
  | .lit (.string bytes) => bytes.length + 1
  | .lit _ => 1
  | .nil => 1
  | .ptr d => uptoBulk d + 1
  | .slice elems spare => uptoBulkAll elems + uptoBulkAll spare + 1
  | .agg parts => uptoBulkAll parts + 1
  | .iface _ d => uptoBulk d + 1
  | .map entries => uptoBulkEntries entries + 1
  | .held _ => 1
def uptoBulkAll {H : Type} : List (DataW H) → Nat
  | [] => 0
  | d :: r => uptoBulk d + uptoBulkAll r
def uptoBulkEntries {H : Type} : List (Lit × DataW H) → Nat
  | [] => 0
  | x :: r => uptoBulkEntry x + uptoBulkEntries r
def uptoBulkEntry {H : Type} : Lit × DataW H → Nat
  | (.string bytes, d) => bytes.length + uptoBulk d + 1
  | (_, d) => uptoBulk d + 1
 end
def uptoSmall : (H : Type) → List (DataW H) → Bool := fun _ ds => decide (uptoBulkAll ds ≤ 1048576)
def OpenSpec.upto (s : _root_.Go.ChangeSpec) : _root_.Go.OpenSpec := { _root_.Go.OpenSpec.ofChange s with cond := some uptoSmall }

/-- 'laws.FnExactImageAfter', WHERE WHAT IT READS IS OF BULK AT MOST 1048576: true; the input reads as it did. -/
def fnExactImageAfterUptoRow : OpenClaim := { program := "ytfcllmlecnffdaa", sum := "17d1767543fe52cbc76c44f44af7bdab3abde4300ce8dd9692955a883542a9e6", func := "loop.example/g01351/laws.FnExactImageAfter", spec := "fnExactImageAfter", apart := false, narrowed := true }
def FnExactImageAfterUptoSaid : Prop := fnExactImageAfterUptoRow.holds Try.pinned (OpenSpec.upto fnExactImageAfterSpec)

/-- 'laws.FnExactImagesUpTo', WHERE WHAT IT READS IS OF BULK AT MOST 1048576: true; the input reads as it did. -/
def fnExactImagesUpToUptoRow : OpenClaim := { program := "ytfcllmlecnffdaa", sum := "17d1767543fe52cbc76c44f44af7bdab3abde4300ce8dd9692955a883542a9e6", func := "loop.example/g01351/laws.FnExactImagesUpTo", spec := "fnExactImagesUpTo", unfollowed := true, recurses := true, leaving := true, apart := false, narrowed := true }
def FnExactImagesUpToUptoSaid : Prop := fnExactImagesUpToUptoRow.holds Try.pinned (OpenSpec.upto fnExactImagesUpToSpec)

/-- 'laws.FnExactWordOfImage', WHERE WHAT IT READS IS OF BULK AT MOST 1048576: true; the input reads as it did. -/
def fnExactWordOfImageUptoRow : OpenClaim := { program := "ytfcllmlecnffdaa", sum := "17d1767543fe52cbc76c44f44af7bdab3abde4300ce8dd9692955a883542a9e6", func := "loop.example/g01351/laws.FnExactWordOfImage", spec := "fnExactWordOfImage", unfollowed := true, recurses := true, leaving := true, apart := false, narrowed := true }
def FnExactWordOfImageUptoSaid : Prop := fnExactWordOfImageUptoRow.holds Try.pinned (OpenSpec.upto fnExactWordOfImageSpec)

/-- 'laws.FnExactCountNear', WHERE WHAT IT READS IS OF BULK AT MOST 1048576: true; the input reads as it did. -/
def fnExactCountNearUptoRow : OpenClaim := { program := "ytfcllmlecnffdaa", sum := "17d1767543fe52cbc76c44f44af7bdab3abde4300ce8dd9692955a883542a9e6", func := "loop.example/g01351/laws.FnExactCountNear", spec := "fnExactCountNear", unfollowed := true, recurses := true, leaving := true, apart := false, narrowed := true }
def FnExactCountNearUptoSaid : Prop := fnExactCountNearUptoRow.holds Try.pinned (OpenSpec.upto fnExactCountNearSpec)

/-- 'laws.FnExactNearestImage', WHERE WHAT IT READS IS OF BULK AT MOST 1048576: true; the input reads as it did. -/
def fnExactNearestImageUptoRow : OpenClaim := { program := "ytfcllmlecnffdaa", sum := "17d1767543fe52cbc76c44f44af7bdab3abde4300ce8dd9692955a883542a9e6", func := "loop.example/g01351/laws.FnExactNearestImage", spec := "fnExactNearestImage", unfollowed := true, recurses := true, leaving := true, apart := false, narrowed := true }
def FnExactNearestImageUptoSaid : Prop := fnExactNearestImageUptoRow.holds Try.pinned (OpenSpec.upto fnExactNearestImageSpec)

/-- 'laws.FnExactFarthestOf', WHERE WHAT IT READS IS OF BULK AT MOST 1048576: true; the input reads as it did. -/
def fnExactFarthestOfUptoRow : OpenClaim := { program := "ytfcllmlecnffdaa", sum := "17d1767543fe52cbc76c44f44af7bdab3abde4300ce8dd9692955a883542a9e6", func := "loop.example/g01351/laws.FnExactFarthestOf", spec := "fnExactFarthestOf", unfollowed := true, recurses := true, leaving := true, apart := false, narrowed := true }
def FnExactFarthestOfUptoSaid : Prop := fnExactFarthestOfUptoRow.holds Try.pinned (OpenSpec.upto fnExactFarthestOfSpec)

/-- 'laws.FnExactWedgeImages', WHERE WHAT IT READS IS OF BULK AT MOST 1048576: true; the input reads as it did. -/
def fnExactWedgeImagesUptoRow : OpenClaim := { program := "ytfcllmlecnffdaa", sum := "17d1767543fe52cbc76c44f44af7bdab3abde4300ce8dd9692955a883542a9e6", func := "loop.example/g01351/laws.FnExactWedgeImages", spec := "fnExactWedgeImages", unfollowed := true, recurses := true, leaving := true, apart := false, narrowed := true }
def FnExactWedgeImagesUptoSaid : Prop := fnExactWedgeImagesUptoRow.holds Try.pinned (OpenSpec.upto fnExactWedgeImagesSpec)

/-- 'laws.FnExactCountWedge', WHERE WHAT IT READS IS OF BULK AT MOST 1048576: true; the input reads as it did. -/
def fnExactCountWedgeUptoRow : OpenClaim := { program := "ytfcllmlecnffdaa", sum := "17d1767543fe52cbc76c44f44af7bdab3abde4300ce8dd9692955a883542a9e6", func := "loop.example/g01351/laws.FnExactCountWedge", spec := "fnExactCountWedge", apart := false, narrowed := true }
def FnExactCountWedgeUptoSaid : Prop := fnExactCountWedgeUptoRow.holds Try.pinned (OpenSpec.upto fnExactCountWedgeSpec)

/-- 'laws.FnExactWedgeSteps', WHERE WHAT IT READS IS OF BULK AT MOST 1048576: true; the input reads as it did. -/
def fnExactWedgeStepsUptoRow : OpenClaim := { program := "ytfcllmlecnffdaa", sum := "17d1767543fe52cbc76c44f44af7bdab3abde4300ce8dd9692955a883542a9e6", func := "loop.example/g01351/laws.FnExactWedgeSteps", spec := "fnExactWedgeSteps", unfollowed := true, recurses := true, leaving := true, apart := false, narrowed := true }
def FnExactWedgeStepsUptoSaid : Prop := fnExactWedgeStepsUptoRow.holds Try.pinned (OpenSpec.upto fnExactWedgeStepsSpec)

/-- 'laws.FnExactAnglesFor', WHERE WHAT IT READS IS OF BULK AT MOST 1048576: true; the input reads as it did. -/
def fnExactAnglesForUptoRow : OpenClaim := { program := "ytfcllmlecnffdaa", sum := "17d1767543fe52cbc76c44f44af7bdab3abde4300ce8dd9692955a883542a9e6", func := "loop.example/g01351/laws.FnExactAnglesFor", spec := "fnExactAnglesFor", apart := false, narrowed := true }
def FnExactAnglesForUptoSaid : Prop := fnExactAnglesForUptoRow.holds Try.pinned (OpenSpec.upto fnExactAnglesForSpec)

/-- 'laws.FnExactMirrorFor', WHERE WHAT IT READS IS OF BULK AT MOST 1048576: true; the input reads as it did. -/
def fnExactMirrorForUptoRow : OpenClaim := { program := "ytfcllmlecnffdaa", sum := "17d1767543fe52cbc76c44f44af7bdab3abde4300ce8dd9692955a883542a9e6", func := "loop.example/g01351/laws.FnExactMirrorFor", spec := "fnExactMirrorFor", apart := false, narrowed := true }
def FnExactMirrorForUptoSaid : Prop := fnExactMirrorForUptoRow.holds Try.pinned (OpenSpec.upto fnExactMirrorForSpec)

/-- 'laws.FnExactCanSeeAll', WHERE WHAT IT READS IS OF BULK AT MOST 1048576: true; the input reads as it did. -/
def fnExactCanSeeAllUptoRow : OpenClaim := { program := "ytfcllmlecnffdaa", sum := "17d1767543fe52cbc76c44f44af7bdab3abde4300ce8dd9692955a883542a9e6", func := "loop.example/g01351/laws.FnExactCanSeeAll", spec := "fnExactCanSeeAll", apart := false, narrowed := true }
def FnExactCanSeeAllUptoSaid : Prop := fnExactCanSeeAllUptoRow.holds Try.pinned (OpenSpec.upto fnExactCanSeeAllSpec)

/-- 'laws.FnExactSeenOfPerson', WHERE WHAT IT READS IS OF BULK AT MOST 1048576: true; the input reads as it did. -/
def fnExactSeenOfPersonUptoRow : OpenClaim := { program := "ytfcllmlecnffdaa", sum := "17d1767543fe52cbc76c44f44af7bdab3abde4300ce8dd9692955a883542a9e6", func := "loop.example/g01351/laws.FnExactSeenOfPerson", spec := "fnExactSeenOfPerson", apart := false, narrowed := true }
def FnExactSeenOfPersonUptoSaid : Prop := fnExactSeenOfPersonUptoRow.holds Try.pinned (OpenSpec.upto fnExactSeenOfPersonSpec)

/-- 'laws.FnExactLookedAt', WHERE WHAT IT READS IS OF BULK AT MOST 1048576: true; the input reads as it did. -/
def fnExactLookedAtUptoRow : OpenClaim := { program := "ytfcllmlecnffdaa", sum := "17d1767543fe52cbc76c44f44af7bdab3abde4300ce8dd9692955a883542a9e6", func := "loop.example/g01351/laws.FnExactLookedAt", spec := "fnExactLookedAt", apart := false, narrowed := true }
def FnExactLookedAtUptoSaid : Prop := fnExactLookedAtUptoRow.holds Try.pinned (OpenSpec.upto fnExactLookedAtSpec)

/-- 'laws.FnExactLookSquare', WHERE WHAT IT READS IS OF BULK AT MOST 1048576: true; the input reads as it did. -/
def fnExactLookSquareUptoRow : OpenClaim := { program := "ytfcllmlecnffdaa", sum := "17d1767543fe52cbc76c44f44af7bdab3abde4300ce8dd9692955a883542a9e6", func := "loop.example/g01351/laws.FnExactLookSquare", spec := "fnExactLookSquare", apart := false, narrowed := true }
def FnExactLookSquareUptoSaid : Prop := fnExactLookSquareUptoRow.holds Try.pinned (OpenSpec.upto fnExactLookSquareSpec)

/-- 'laws.FnExactSeesIn', WHERE WHAT IT READS IS OF BULK AT MOST 1048576: true; the input reads as it did. -/
def fnExactSeesInUptoRow : OpenClaim := { program := "ytfcllmlecnffdaa", sum := "17d1767543fe52cbc76c44f44af7bdab3abde4300ce8dd9692955a883542a9e6", func := "loop.example/g01351/laws.FnExactSeesIn", spec := "fnExactSeesIn", apart := false, narrowed := true }
def FnExactSeesInUptoSaid : Prop := fnExactSeesInUptoRow.holds Try.pinned (OpenSpec.upto fnExactSeesInSpec)

/-- 'laws.FnExactSeenIn', WHERE WHAT IT READS IS OF BULK AT MOST 1048576: true; the input reads as it did. -/
def fnExactSeenInUptoRow : OpenClaim := { program := "ytfcllmlecnffdaa", sum := "17d1767543fe52cbc76c44f44af7bdab3abde4300ce8dd9692955a883542a9e6", func := "loop.example/g01351/laws.FnExactSeenIn", spec := "fnExactSeenIn", apart := false, narrowed := true }
def FnExactSeenInUptoSaid : Prop := fnExactSeenInUptoRow.holds Try.pinned (OpenSpec.upto fnExactSeenInSpec)

/-- 'laws.FnExactLeastMirrorFor', WHERE WHAT IT READS IS OF BULK AT MOST 1048576: true; the input reads as it did. -/
def fnExactLeastMirrorForUptoRow : OpenClaim := { program := "ytfcllmlecnffdaa", sum := "17d1767543fe52cbc76c44f44af7bdab3abde4300ce8dd9692955a883542a9e6", func := "loop.example/g01351/laws.FnExactLeastMirrorFor", spec := "fnExactLeastMirrorFor", apart := false, narrowed := true }
def FnExactLeastMirrorForUptoSaid : Prop := fnExactLeastMirrorForUptoRow.holds Try.pinned (OpenSpec.upto fnExactLeastMirrorForSpec)

end Rows
end Go.Proofs.Ytfcllmlecnffdaa

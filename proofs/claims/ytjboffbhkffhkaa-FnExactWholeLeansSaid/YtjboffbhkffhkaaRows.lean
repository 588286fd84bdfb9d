/-
  NARROWER THAN 'FOR EVERY INPUT', by the rows' own cells (each row's printed sentence says how): FnExactLeastLadder: calm.
  DERIVED. THE GIVEN ROWS OF THIS SEAT. 19 by the template 'for every input the law returns true; each argument reads behind the call as it read before'; 0 by the template 'total and deterministic' (their statements: YtjboffbhkffhkaaTotals.lean).
  GIVEN WITH THE SEED: the statements are not yours to turn. If you find one false, say at which input.
  Laid BY PROGRAM, IN A SANDBOX (cutbox-rows.mjs): the forced cells as the released guide's own fill.sh prints them over the translation f781f8d41ae78a1f… (all of the seat's roots in one cut). By AI agents, Wed Nov 11 2026. No macro, syntax, notation, axiom, sorry.
-/
import Derived.Test.YtjboffbhkffhkaaChecked
import GoSem.Claim
import GoSem.ClaimJoined
import GoSem.ClaimMapViews
import Derived.JoinedTies
import Derived.KernelRfl
namespace Go.Proofs.Ytjboffbhkffhkaa
/- THE CELL 'sum', in the pinned program and in every row, IS THE sha256 OF THE DUMP (.gsa) THAT YtjboffbhkffhkaaProg.lean LOADS. Nothing in Lean hashes anything: it is a label: what it is worth is what the hold of that sum in a sandbox is worth. -/
noncomputable def Try.pinned : Pinned := { name := "ytjboffbhkffhkaa", sum := "f781f8d41ae78a1fe6d584a36ee325c99e536c92a316f3ba6432719c94699607", checked := Try.checked }
namespace Rows
def none {H : Type} : Left H := { results := [], args := [] }

/-- 'laws.FnExactIsBox': WHATEVER THE INPUT: true; the input reads as it did. -/
def fnExactIsBoxSpec : ChangeSpec := { name := "fnExactIsBox", fn := fun _ => fun
  | [d] => { results := [.lit (.bool true)], args := [d] }
  | _ => none }
def fnExactIsBoxRow : OpenClaim := { program := "ytjboffbhkffhkaa", sum := "f781f8d41ae78a1fe6d584a36ee325c99e536c92a316f3ba6432719c94699607", func := "loop.example/g01351/laws.FnExactIsBox", spec := "fnExactIsBox", apart := false }
def FnExactIsBoxSaid : Prop := fnExactIsBoxRow.holds Try.pinned (OpenSpec.ofChange fnExactIsBoxSpec)

/-- ITS FALSE NEIGHBOUR: 'it returns false'. Refute it at one input. -/
def fnExactIsBoxWrong : ChangeSpec := { name := "fnExactIsBox", fn := fun _ => fun
  | [d] => { results := [.lit (.bool false)], args := [d] }
  | _ => none }
def FnExactIsBoxWrongFalsely : Prop := fnExactIsBoxRow.holds Try.pinned (OpenSpec.ofChange fnExactIsBoxWrong)

/-- 'laws.FnExactHeightOver': WHATEVER THE INPUT: true; the input reads as it did. -/
def fnExactHeightOverSpec : ChangeSpec := { name := "fnExactHeightOver", fn := fun _ => fun
  | [d1, d2] => { results := [.lit (.bool true)], args := [d1, d2] }
  | _ => none }
def fnExactHeightOverRow : OpenClaim := { program := "ytjboffbhkffhkaa", sum := "f781f8d41ae78a1fe6d584a36ee325c99e536c92a316f3ba6432719c94699607", func := "loop.example/g01351/laws.FnExactHeightOver", spec := "fnExactHeightOver", apart := false }
def FnExactHeightOverSaid : Prop := fnExactHeightOverRow.holds Try.pinned (OpenSpec.ofChange fnExactHeightOverSpec)

/-- ITS FALSE NEIGHBOUR: 'it returns false'. Refute it at one input. -/
def fnExactHeightOverWrong : ChangeSpec := { name := "fnExactHeightOver", fn := fun _ => fun
  | [d1, d2] => { results := [.lit (.bool false)], args := [d1, d2] }
  | _ => none }
def FnExactHeightOverWrongFalsely : Prop := fnExactHeightOverRow.holds Try.pinned (OpenSpec.ofChange fnExactHeightOverWrong)

/-- 'laws.FnExactIsClear': WHATEVER THE INPUT: true; the input reads as it did. -/
def fnExactIsClearSpec : ChangeSpec := { name := "fnExactIsClear", fn := fun _ => fun
  | [d1, d2, d3] => { results := [.lit (.bool true)], args := [d1, d2, d3] }
  | _ => none }
def fnExactIsClearRow : OpenClaim := { program := "ytjboffbhkffhkaa", sum := "f781f8d41ae78a1fe6d584a36ee325c99e536c92a316f3ba6432719c94699607", func := "loop.example/g01351/laws.FnExactIsClear", spec := "fnExactIsClear", apart := false }
def FnExactIsClearSaid : Prop := fnExactIsClearRow.holds Try.pinned (OpenSpec.ofChange fnExactIsClearSpec)

/-- ITS FALSE NEIGHBOUR: 'it returns false'. Refute it at one input. -/
def fnExactIsClearWrong : ChangeSpec := { name := "fnExactIsClear", fn := fun _ => fun
  | [d1, d2, d3] => { results := [.lit (.bool false)], args := [d1, d2, d3] }
  | _ => none }
def FnExactIsClearWrongFalsely : Prop := fnExactIsClearRow.holds Try.pinned (OpenSpec.ofChange fnExactIsClearWrong)

/-- 'laws.FnExactJustTouches': WHATEVER THE INPUT: true; the input reads as it did. -/
def fnExactJustTouchesSpec : ChangeSpec := { name := "fnExactJustTouches", fn := fun _ => fun
  | [d1, d2, d3] => { results := [.lit (.bool true)], args := [d1, d2, d3] }
  | _ => none }
def fnExactJustTouchesRow : OpenClaim := { program := "ytjboffbhkffhkaa", sum := "f781f8d41ae78a1fe6d584a36ee325c99e536c92a316f3ba6432719c94699607", func := "loop.example/g01351/laws.FnExactJustTouches", spec := "fnExactJustTouches", apart := false }
def FnExactJustTouchesSaid : Prop := fnExactJustTouchesRow.holds Try.pinned (OpenSpec.ofChange fnExactJustTouchesSpec)

/-- ITS FALSE NEIGHBOUR: 'it returns false'. Refute it at one input. -/
def fnExactJustTouchesWrong : ChangeSpec := { name := "fnExactJustTouches", fn := fun _ => fun
  | [d1, d2, d3] => { results := [.lit (.bool false)], args := [d1, d2, d3] }
  | _ => none }
def FnExactJustTouchesWrongFalsely : Prop := fnExactJustTouchesRow.holds Try.pinned (OpenSpec.ofChange fnExactJustTouchesWrong)

/-- 'laws.FnExactWholeLeans': WHATEVER THE INPUT: true; the input reads as it did. -/
def fnExactWholeLeansSpec : ChangeSpec := { name := "fnExactWholeLeans", fn := fun _ => fun
  | [d] => { results := [.lit (.bool true)], args := [d] }
  | _ => none }
def fnExactWholeLeansRow : OpenClaim := { program := "ytjboffbhkffhkaa", sum := "f781f8d41ae78a1fe6d584a36ee325c99e536c92a316f3ba6432719c94699607", func := "loop.example/g01351/laws.FnExactWholeLeans", spec := "fnExactWholeLeans", apart := false }
def FnExactWholeLeansSaid : Prop := fnExactWholeLeansRow.holds Try.pinned (OpenSpec.ofChange fnExactWholeLeansSpec)

/-- ITS FALSE NEIGHBOUR: 'it returns false'. Refute it at one input. -/
def fnExactWholeLeansWrong : ChangeSpec := { name := "fnExactWholeLeans", fn := fun _ => fun
  | [d] => { results := [.lit (.bool false)], args := [d] }
  | _ => none }
def FnExactWholeLeansWrongFalsely : Prop := fnExactWholeLeansRow.holds Try.pinned (OpenSpec.ofChange fnExactWholeLeansWrong)

/-- 'laws.FnExactWholeLadders': WHATEVER THE INPUT: true; the input reads as it did. -/
def fnExactWholeLaddersSpec : ChangeSpec := { name := "fnExactWholeLadders", fn := fun _ => fun
  | [d] => { results := [.lit (.bool true)], args := [d] }
  | _ => none }
def fnExactWholeLaddersRow : OpenClaim := { program := "ytjboffbhkffhkaa", sum := "f781f8d41ae78a1fe6d584a36ee325c99e536c92a316f3ba6432719c94699607", func := "loop.example/g01351/laws.FnExactWholeLadders", spec := "fnExactWholeLadders", apart := false }
def FnExactWholeLaddersSaid : Prop := fnExactWholeLaddersRow.holds Try.pinned (OpenSpec.ofChange fnExactWholeLaddersSpec)

/-- ITS FALSE NEIGHBOUR: 'it returns false'. Refute it at one input. -/
def fnExactWholeLaddersWrong : ChangeSpec := { name := "fnExactWholeLadders", fn := fun _ => fun
  | [d] => { results := [.lit (.bool false)], args := [d] }
  | _ => none }
def FnExactWholeLaddersWrongFalsely : Prop := fnExactWholeLaddersRow.holds Try.pinned (OpenSpec.ofChange fnExactWholeLaddersWrong)

/-- 'laws.FnExactReachesOver': WHATEVER THE INPUT: true; the input reads as it did. -/
def fnExactReachesOverSpec : ChangeSpec := { name := "fnExactReachesOver", fn := fun _ => fun
  | [d1, d2, d3] => { results := [.lit (.bool true)], args := [d1, d2, d3] }
  | _ => none }
def fnExactReachesOverRow : OpenClaim := { program := "ytjboffbhkffhkaa", sum := "f781f8d41ae78a1fe6d584a36ee325c99e536c92a316f3ba6432719c94699607", func := "loop.example/g01351/laws.FnExactReachesOver", spec := "fnExactReachesOver", apart := false }
def FnExactReachesOverSaid : Prop := fnExactReachesOverRow.holds Try.pinned (OpenSpec.ofChange fnExactReachesOverSpec)

/-- ITS FALSE NEIGHBOUR: 'it returns false'. Refute it at one input. -/
def fnExactReachesOverWrong : ChangeSpec := { name := "fnExactReachesOver", fn := fun _ => fun
  | [d1, d2, d3] => { results := [.lit (.bool false)], args := [d1, d2, d3] }
  | _ => none }
def FnExactReachesOverWrongFalsely : Prop := fnExactReachesOverRow.holds Try.pinned (OpenSpec.ofChange fnExactReachesOverWrong)

/-- 'laws.FnExactFeetFor': WHATEVER THE INPUT: true; the input reads as it did. -/
def fnExactFeetForSpec : ChangeSpec := { name := "fnExactFeetFor", fn := fun _ => fun
  | [d1, d2] => { results := [.lit (.bool true)], args := [d1, d2] }
  | _ => none }
def fnExactFeetForRow : OpenClaim := { program := "ytjboffbhkffhkaa", sum := "f781f8d41ae78a1fe6d584a36ee325c99e536c92a316f3ba6432719c94699607", func := "loop.example/g01351/laws.FnExactFeetFor", spec := "fnExactFeetFor", apart := false }
def FnExactFeetForSaid : Prop := fnExactFeetForRow.holds Try.pinned (OpenSpec.ofChange fnExactFeetForSpec)

/-- ITS FALSE NEIGHBOUR: 'it returns false'. Refute it at one input. -/
def fnExactFeetForWrong : ChangeSpec := { name := "fnExactFeetFor", fn := fun _ => fun
  | [d1, d2] => { results := [.lit (.bool false)], args := [d1, d2] }
  | _ => none }
def FnExactFeetForWrongFalsely : Prop := fnExactFeetForRow.holds Try.pinned (OpenSpec.ofChange fnExactFeetForWrong)

/-- 'laws.FnExactLeastLadder': WHATEVER THE INPUT: true; the input reads as it did. -/
def fnExactLeastLadderSpec : ChangeSpec := { name := "fnExactLeastLadder", fn := fun _ => fun
  | [d] => { results := [.lit (.bool true)], args := [d] }
  | _ => none }
def fnExactLeastLadderRow : OpenClaim := { program := "ytjboffbhkffhkaa", sum := "f781f8d41ae78a1fe6d584a36ee325c99e536c92a316f3ba6432719c94699607", func := "loop.example/g01351/laws.FnExactLeastLadder", spec := "fnExactLeastLadder", inPlace := ["(*internal/sync.Mutex).Lock", "internal/race.Disable", "sync/atomic.CompareAndSwapInt32", "internal/race.Enable", "internal/race.Acquire", "(*internal/sync.Mutex).lockSlow", "internal/sync.runtime_canSpin", "internal/sync.runtime_doSpin", "internal/sync.throw", "internal/sync.runtime_nanotime", "internal/sync.runtime_SemacquireMutex", "sync/atomic.AddInt32", "(*internal/sync.Mutex).Unlock", "internal/race.ReleaseMerge", "(*internal/sync.Mutex).unlockSlow", "internal/sync.fatal", "internal/sync.runtime_Semrelease", "(*sync.WaitGroup).Go", "(*sync.WaitGroup).Add", "internal/synctest.IsInBubble", "internal/synctest.Associate[sync.WaitGroup]", "sync.fatal", "sync/atomic.OrUint64", "sync/atomic.AddUint64", "internal/race.Read", "sync/atomic.LoadUint64", "sync/atomic.StoreUint64", "internal/synctest.Disassociate[sync.WaitGroup]", "sync.runtime_Semrelease", "(*sync.WaitGroup).Go$1", "(*sync.WaitGroup).Go$1$1", "(*sync.WaitGroup).Done", "(*sync.WaitGroup).Wait", "internal/synctest.IsAssociated[sync.WaitGroup]", "sync/atomic.CompareAndSwapUint64", "internal/race.Write", "sync.runtime_SemacquireWaitGroup"], unfollowed := true, recurses := true, leaving := true, apart := false, calm := true, outside := [.timePasses] }
def FnExactLeastLadderSaid : Prop := fnExactLeastLadderRow.holds Try.pinned (OpenSpec.ofChange fnExactLeastLadderSpec)

/-- ITS FALSE NEIGHBOUR: 'it returns false'. Refute it at one input. -/
def fnExactLeastLadderWrong : ChangeSpec := { name := "fnExactLeastLadder", fn := fun _ => fun
  | [d] => { results := [.lit (.bool false)], args := [d] }
  | _ => none }
def FnExactLeastLadderWrongFalsely : Prop := fnExactLeastLadderRow.holds Try.pinned (OpenSpec.ofChange fnExactLeastLadderWrong)

/-- 'laws.FnExactCountSquareLeans': WHATEVER THE INPUT: true; the input reads as it did. -/
def fnExactCountSquareLeansSpec : ChangeSpec := { name := "fnExactCountSquareLeans", fn := fun _ => fun
  | [d1, d2] => { results := [.lit (.bool true)], args := [d1, d2] }
  | _ => none }
def fnExactCountSquareLeansRow : OpenClaim := { program := "ytjboffbhkffhkaa", sum := "f781f8d41ae78a1fe6d584a36ee325c99e536c92a316f3ba6432719c94699607", func := "loop.example/g01351/laws.FnExactCountSquareLeans", spec := "fnExactCountSquareLeans", apart := false }
def FnExactCountSquareLeansSaid : Prop := fnExactCountSquareLeansRow.holds Try.pinned (OpenSpec.ofChange fnExactCountSquareLeansSpec)

/-- ITS FALSE NEIGHBOUR: 'it returns false'. Refute it at one input. -/
def fnExactCountSquareLeansWrong : ChangeSpec := { name := "fnExactCountSquareLeans", fn := fun _ => fun
  | [d1, d2] => { results := [.lit (.bool false)], args := [d1, d2] }
  | _ => none }
def FnExactCountSquareLeansWrongFalsely : Prop := fnExactCountSquareLeansRow.holds Try.pinned (OpenSpec.ofChange fnExactCountSquareLeansWrong)

/-- 'laws.FnExactGreatestSquareBox': WHATEVER THE INPUT: true; the input reads as it did. -/
def fnExactGreatestSquareBoxSpec : ChangeSpec := { name := "fnExactGreatestSquareBox", fn := fun _ => fun
  | [d] => { results := [.lit (.bool true)], args := [d] }
  | _ => none }
def fnExactGreatestSquareBoxRow : OpenClaim := { program := "ytjboffbhkffhkaa", sum := "f781f8d41ae78a1fe6d584a36ee325c99e536c92a316f3ba6432719c94699607", func := "loop.example/g01351/laws.FnExactGreatestSquareBox", spec := "fnExactGreatestSquareBox", apart := false }
def FnExactGreatestSquareBoxSaid : Prop := fnExactGreatestSquareBoxRow.holds Try.pinned (OpenSpec.ofChange fnExactGreatestSquareBoxSpec)

/-- ITS FALSE NEIGHBOUR: 'it returns false'. Refute it at one input. -/
def fnExactGreatestSquareBoxWrong : ChangeSpec := { name := "fnExactGreatestSquareBox", fn := fun _ => fun
  | [d] => { results := [.lit (.bool false)], args := [d] }
  | _ => none }
def FnExactGreatestSquareBoxWrongFalsely : Prop := fnExactGreatestSquareBoxRow.holds Try.pinned (OpenSpec.ofChange fnExactGreatestSquareBoxWrong)

/-- 'laws.FnExactSquareLeanSum': WHATEVER THE INPUT: true; the input reads as it did. -/
def fnExactSquareLeanSumSpec : ChangeSpec := { name := "fnExactSquareLeanSum", fn := fun _ => fun
  | [d1, d2] => { results := [.lit (.bool true)], args := [d1, d2] }
  | _ => none }
def fnExactSquareLeanSumRow : OpenClaim := { program := "ytjboffbhkffhkaa", sum := "f781f8d41ae78a1fe6d584a36ee325c99e536c92a316f3ba6432719c94699607", func := "loop.example/g01351/laws.FnExactSquareLeanSum", spec := "fnExactSquareLeanSum", apart := false }
def FnExactSquareLeanSumSaid : Prop := fnExactSquareLeanSumRow.holds Try.pinned (OpenSpec.ofChange fnExactSquareLeanSumSpec)

/-- ITS FALSE NEIGHBOUR: 'it returns false'. Refute it at one input. -/
def fnExactSquareLeanSumWrong : ChangeSpec := { name := "fnExactSquareLeanSum", fn := fun _ => fun
  | [d1, d2] => { results := [.lit (.bool false)], args := [d1, d2] }
  | _ => none }
def FnExactSquareLeanSumWrongFalsely : Prop := fnExactSquareLeanSumRow.holds Try.pinned (OpenSpec.ofChange fnExactSquareLeanSumWrong)

/-- 'laws.FnExactWholeSquareLeans': WHATEVER THE INPUT: true; the input reads as it did. -/
def fnExactWholeSquareLeansSpec : ChangeSpec := { name := "fnExactWholeSquareLeans", fn := fun _ => fun
  | [d] => { results := [.lit (.bool true)], args := [d] }
  | _ => none }
def fnExactWholeSquareLeansRow : OpenClaim := { program := "ytjboffbhkffhkaa", sum := "f781f8d41ae78a1fe6d584a36ee325c99e536c92a316f3ba6432719c94699607", func := "loop.example/g01351/laws.FnExactWholeSquareLeans", spec := "fnExactWholeSquareLeans", apart := false }
def FnExactWholeSquareLeansSaid : Prop := fnExactWholeSquareLeansRow.holds Try.pinned (OpenSpec.ofChange fnExactWholeSquareLeansSpec)

/-- ITS FALSE NEIGHBOUR: 'it returns false'. Refute it at one input. -/
def fnExactWholeSquareLeansWrong : ChangeSpec := { name := "fnExactWholeSquareLeans", fn := fun _ => fun
  | [d] => { results := [.lit (.bool false)], args := [d] }
  | _ => none }
def FnExactWholeSquareLeansWrongFalsely : Prop := fnExactWholeSquareLeansRow.holds Try.pinned (OpenSpec.ofChange fnExactWholeSquareLeansWrong)

/-- 'laws.FnExactSlipHeights': WHATEVER THE INPUT: true; the input reads as it did. -/
def fnExactSlipHeightsSpec : ChangeSpec := { name := "fnExactSlipHeights", fn := fun _ => fun
  | [d1, d2, d3, d4] => { results := [.lit (.bool true)], args := [d1, d2, d3, d4] }
  | _ => none }
def fnExactSlipHeightsRow : OpenClaim := { program := "ytjboffbhkffhkaa", sum := "f781f8d41ae78a1fe6d584a36ee325c99e536c92a316f3ba6432719c94699607", func := "loop.example/g01351/laws.FnExactSlipHeights", spec := "fnExactSlipHeights", apart := false }
def FnExactSlipHeightsSaid : Prop := fnExactSlipHeightsRow.holds Try.pinned (OpenSpec.ofChange fnExactSlipHeightsSpec)

/-- ITS FALSE NEIGHBOUR: 'it returns false'. Refute it at one input. -/
def fnExactSlipHeightsWrong : ChangeSpec := { name := "fnExactSlipHeights", fn := fun _ => fun
  | [d1, d2, d3, d4] => { results := [.lit (.bool false)], args := [d1, d2, d3, d4] }
  | _ => none }
def FnExactSlipHeightsWrongFalsely : Prop := fnExactSlipHeightsRow.holds Try.pinned (OpenSpec.ofChange fnExactSlipHeightsWrong)

/-- 'laws.FnExactSlipDrops': WHATEVER THE INPUT: true; the input reads as it did. -/
def fnExactSlipDropsSpec : ChangeSpec := { name := "fnExactSlipDrops", fn := fun _ => fun
  | [d1, d2, d3, d4] => { results := [.lit (.bool true)], args := [d1, d2, d3, d4] }
  | _ => none }
def fnExactSlipDropsRow : OpenClaim := { program := "ytjboffbhkffhkaa", sum := "f781f8d41ae78a1fe6d584a36ee325c99e536c92a316f3ba6432719c94699607", func := "loop.example/g01351/laws.FnExactSlipDrops", spec := "fnExactSlipDrops", apart := false }
def FnExactSlipDropsSaid : Prop := fnExactSlipDropsRow.holds Try.pinned (OpenSpec.ofChange fnExactSlipDropsSpec)

/-- ITS FALSE NEIGHBOUR: 'it returns false'. Refute it at one input. -/
def fnExactSlipDropsWrong : ChangeSpec := { name := "fnExactSlipDrops", fn := fun _ => fun
  | [d1, d2, d3, d4] => { results := [.lit (.bool false)], args := [d1, d2, d3, d4] }
  | _ => none }
def FnExactSlipDropsWrongFalsely : Prop := fnExactSlipDropsRow.holds Try.pinned (OpenSpec.ofChange fnExactSlipDropsWrong)

/-- 'laws.FnExactFootForHeight': WHATEVER THE INPUT: true; the input reads as it did. -/
def fnExactFootForHeightSpec : ChangeSpec := { name := "fnExactFootForHeight", fn := fun _ => fun
  | [d1, d2] => { results := [.lit (.bool true)], args := [d1, d2] }
  | _ => none }
def fnExactFootForHeightRow : OpenClaim := { program := "ytjboffbhkffhkaa", sum := "f781f8d41ae78a1fe6d584a36ee325c99e536c92a316f3ba6432719c94699607", func := "loop.example/g01351/laws.FnExactFootForHeight", spec := "fnExactFootForHeight", apart := false }
def FnExactFootForHeightSaid : Prop := fnExactFootForHeightRow.holds Try.pinned (OpenSpec.ofChange fnExactFootForHeightSpec)

/-- ITS FALSE NEIGHBOUR: 'it returns false'. Refute it at one input. -/
def fnExactFootForHeightWrong : ChangeSpec := { name := "fnExactFootForHeight", fn := fun _ => fun
  | [d1, d2] => { results := [.lit (.bool false)], args := [d1, d2] }
  | _ => none }
def FnExactFootForHeightWrongFalsely : Prop := fnExactFootForHeightRow.holds Try.pinned (OpenSpec.ofChange fnExactFootForHeightWrong)

/-- 'laws.FnExactMiddleOf': WHATEVER THE INPUT: true; the input reads as it did. -/
def fnExactMiddleOfSpec : ChangeSpec := { name := "fnExactMiddleOf", fn := fun _ => fun
  | [d1, d2] => { results := [.lit (.bool true)], args := [d1, d2] }
  | _ => none }
def fnExactMiddleOfRow : OpenClaim := { program := "ytjboffbhkffhkaa", sum := "f781f8d41ae78a1fe6d584a36ee325c99e536c92a316f3ba6432719c94699607", func := "loop.example/g01351/laws.FnExactMiddleOf", spec := "fnExactMiddleOf", apart := false }
def FnExactMiddleOfSaid : Prop := fnExactMiddleOfRow.holds Try.pinned (OpenSpec.ofChange fnExactMiddleOfSpec)

/-- ITS FALSE NEIGHBOUR: 'it returns false'. Refute it at one input. -/
def fnExactMiddleOfWrong : ChangeSpec := { name := "fnExactMiddleOf", fn := fun _ => fun
  | [d1, d2] => { results := [.lit (.bool false)], args := [d1, d2] }
  | _ => none }
def FnExactMiddleOfWrongFalsely : Prop := fnExactMiddleOfRow.holds Try.pinned (OpenSpec.ofChange fnExactMiddleOfWrong)

/-- 'laws.FnExactPartOfLadder': WHATEVER THE INPUT: true; the input reads as it did. -/
def fnExactPartOfLadderSpec : ChangeSpec := { name := "fnExactPartOfLadder", fn := fun _ => fun
  | [d1, d2, d3, d4] => { results := [.lit (.bool true)], args := [d1, d2, d3, d4] }
  | _ => none }
def fnExactPartOfLadderRow : OpenClaim := { program := "ytjboffbhkffhkaa", sum := "f781f8d41ae78a1fe6d584a36ee325c99e536c92a316f3ba6432719c94699607", func := "loop.example/g01351/laws.FnExactPartOfLadder", spec := "fnExactPartOfLadder", apart := false }
def FnExactPartOfLadderSaid : Prop := fnExactPartOfLadderRow.holds Try.pinned (OpenSpec.ofChange fnExactPartOfLadderSpec)

/-- ITS FALSE NEIGHBOUR: 'it returns false'. Refute it at one input. -/
def fnExactPartOfLadderWrong : ChangeSpec := { name := "fnExactPartOfLadder", fn := fun _ => fun
  | [d1, d2, d3, d4] => { results := [.lit (.bool false)], args := [d1, d2, d3, d4] }
  | _ => none }
def FnExactPartOfLadderWrongFalsely : Prop := fnExactPartOfLadderRow.holds Try.pinned (OpenSpec.ofChange fnExactPartOfLadderWrong)

/-- 'laws.FnExactTurnBox': WHATEVER THE INPUT: true; the input reads as it did. -/
def fnExactTurnBoxSpec : ChangeSpec := { name := "fnExactTurnBox", fn := fun _ => fun
  | [d] => { results := [.lit (.bool true)], args := [d] }
  | _ => none }
def fnExactTurnBoxRow : OpenClaim := { program := "ytjboffbhkffhkaa", sum := "f781f8d41ae78a1fe6d584a36ee325c99e536c92a316f3ba6432719c94699607", func := "loop.example/g01351/laws.FnExactTurnBox", spec := "fnExactTurnBox", apart := false }
def FnExactTurnBoxSaid : Prop := fnExactTurnBoxRow.holds Try.pinned (OpenSpec.ofChange fnExactTurnBoxSpec)

/-- ITS FALSE NEIGHBOUR: 'it returns false'. Refute it at one input. -/
def fnExactTurnBoxWrong : ChangeSpec := { name := "fnExactTurnBox", fn := fun _ => fun
  | [d] => { results := [.lit (.bool false)], args := [d] }
  | _ => none }
def FnExactTurnBoxWrongFalsely : Prop := fnExactTurnBoxRow.holds Try.pinned (OpenSpec.ofChange fnExactTurnBoxWrong)

/- THE SECOND FORM. 'bulk': how many values and letters a reading holds, each counted each time it is reached (what is shared counts as often as it is met; a slice's spare places count too). A statement '..UptoSaid' is the law's where the arguments, and the package variables that the reading takes, are together of bulk at most 1048576: NARROWER than '..Said'. Prove '..Said' where nothing that the law and all that it calls make is longer than what came in: it says more and counts as full. Else prove '..UptoSaid'. A law counts once. -/
mutual
def uptoBulk {H : Type} : DataW H → Nat
  | .lit (.string bytes) => bytes.length + 1
  | .lit _ => 1
  | .nil => 1
  | .ptr d => uptoBulk d + 1
  | .slice elems spare => uptoBulkAll elems + uptoBulkAll spare + 1
  | .agg parts => uptoBulkAll parts + 1
  | .iface _ d => uptoBulk d + 1
  | .map entries => uptoBulkEntries entries + 1
  | .held _ => 1
def uptoBulkAll {H : Type} : List (DataW H) → Nat
  | [] => 0
  | d :: r => uptoBulk d + uptoBulkAll r
def uptoBulkEntries {H : Type} : List (Lit × DataW H) → Nat
  | [] => 0
  | x :: r => uptoBulkEntry x + uptoBulkEntries r
def uptoBulkEntry {H : Type} : Lit × DataW H → Nat
  | (.string bytes, d) => bytes.length + uptoBulk d + 1
  | (_, d) => uptoBulk d + 1
 end
def uptoSmall : (H : Type) → List (DataW H) → Bool := fun _ ds => decide (uptoBulkAll ds ≤ 1048576)
def OpenSpec.upto (s : _root_.Go.ChangeSpec) : _root_.Go.OpenSpec := { _root_.Go.OpenSpec.ofChange s with cond := some uptoSmall }

/-- 'laws.FnExactIsBox', WHERE WHAT IT READS IS OF BULK AT MOST 1048576: true; the input reads as it did. -/
def fnExactIsBoxUptoRow : OpenClaim := { program := "ytjboffbhkffhkaa", sum := "f781f8d41ae78a1fe6d584a36ee325c99e536c92a316f3ba6432719c94699607", func := "loop.example/g01351/laws.FnExactIsBox", spec := "fnExactIsBox", apart := false, narrowed := true }
def FnExactIsBoxUptoSaid : Prop := fnExactIsBoxUptoRow.holds Try.pinned (OpenSpec.upto fnExactIsBoxSpec)

/-- 'laws.FnExactHeightOver', WHERE WHAT IT READS IS OF BULK AT MOST 1048576: true; the input reads as it did. -/
def fnExactHeightOverUptoRow : OpenClaim := { program := "ytjboffbhkffhkaa", sum := "f781f8d41ae78a1fe6d584a36ee325c99e536c92a316f3ba6432719c94699607", func := "loop.example/g01351/laws.FnExactHeightOver", spec := "fnExactHeightOver", apart := false, narrowed := true }
def FnExactHeightOverUptoSaid : Prop := fnExactHeightOverUptoRow.holds Try.pinned (OpenSpec.upto fnExactHeightOverSpec)

/-- 'laws.FnExactIsClear', WHERE WHAT IT READS IS OF BULK AT MOST 1048576: true; the input reads as it did. -/
def fnExactIsClearUptoRow : OpenClaim := { program := "ytjboffbhkffhkaa", sum := "f781f8d41ae78a1fe6d584a36ee325c99e536c92a316f3ba6432719c94699607", func := "loop.example/g01351/laws.FnExactIsClear", spec := "fnExactIsClear", apart := false, narrowed := true }
def FnExactIsClearUptoSaid : Prop := fnExactIsClearUptoRow.holds Try.pinned (OpenSpec.upto fnExactIsClearSpec)

/-- 'laws.FnExactJustTouches', WHERE WHAT IT READS IS OF BULK AT MOST 1048576: true; the input reads as it did. -/
def fnExactJustTouchesUptoRow : OpenClaim := { program := "ytjboffbhkffhkaa", sum := "f781f8d41ae78a1fe6d584a36ee325c99e536c92a316f3ba6432719c94699607", func := "loop.example/g01351/laws.FnExactJustTouches", spec := "fnExactJustTouches", apart := false, narrowed := true }
def FnExactJustTouchesUptoSaid : Prop := fnExactJustTouchesUptoRow.holds Try.pinned (OpenSpec.upto fnExactJustTouchesSpec)

/-- 'laws.FnExactWholeLeans', WHERE WHAT IT READS IS OF BULK AT MOST 1048576: true; the input reads as it did. -/
def fnExactWholeLeansUptoRow : OpenClaim := { program := "ytjboffbhkffhkaa", sum := "f781f8d41ae78a1fe6d584a36ee325c99e536c92a316f3ba6432719c94699607", func := "loop.example/g01351/laws.FnExactWholeLeans", spec := "fnExactWholeLeans", apart := false, narrowed := true }
def FnExactWholeLeansUptoSaid : Prop := fnExactWholeLeansUptoRow.holds Try.pinned (OpenSpec.upto fnExactWholeLeansSpec)

/-- 'laws.FnExactWholeLadders', WHERE WHAT IT READS IS OF BULK AT MOST 1048576: true; the input reads as it did. -/
def fnExactWholeLaddersUptoRow : OpenClaim := { program := "ytjboffbhkffhkaa", sum := "f781f8d41ae78a1fe6d584a36ee325c99e536c92a316f3ba6432719c94699607", func := "loop.example/g01351/laws.FnExactWholeLadders", spec := "fnExactWholeLadders", apart := false, narrowed := true }
def FnExactWholeLaddersUptoSaid : Prop := fnExactWholeLaddersUptoRow.holds Try.pinned (OpenSpec.upto fnExactWholeLaddersSpec)

/-- 'laws.FnExactReachesOver', WHERE WHAT IT READS IS OF BULK AT MOST 1048576: true; the input reads as it did. -/
def fnExactReachesOverUptoRow : OpenClaim := { program := "ytjboffbhkffhkaa", sum := "f781f8d41ae78a1fe6d584a36ee325c99e536c92a316f3ba6432719c94699607", func := "loop.example/g01351/laws.FnExactReachesOver", spec := "fnExactReachesOver", apart := false, narrowed := true }
def FnExactReachesOverUptoSaid : Prop := fnExactReachesOverUptoRow.holds Try.pinned (OpenSpec.upto fnExactReachesOverSpec)

/-- 'laws.FnExactFeetFor', WHERE WHAT IT READS IS OF BULK AT MOST 1048576: true; the input reads as it did. -/
def fnExactFeetForUptoRow : OpenClaim := { program := "ytjboffbhkffhkaa", sum := "f781f8d41ae78a1fe6d584a36ee325c99e536c92a316f3ba6432719c94699607", func := "loop.example/g01351/laws.FnExactFeetFor", spec := "fnExactFeetFor", apart := false, narrowed := true }
def FnExactFeetForUptoSaid : Prop := fnExactFeetForUptoRow.holds Try.pinned (OpenSpec.upto fnExactFeetForSpec)

/-- 'laws.FnExactLeastLadder', WHERE WHAT IT READS IS OF BULK AT MOST 1048576: true; the input reads as it did. -/
def fnExactLeastLadderUptoRow : OpenClaim := { program := "ytjboffbhkffhkaa", sum := "f781f8d41ae78a1fe6d584a36ee325c99e536c92a316f3ba6432719c94699607", func := "loop.example/g01351/laws.FnExactLeastLadder", spec := "fnExactLeastLadder", inPlace := ["(*internal/sync.Mutex).Lock", "internal/race.Disable", "sync/atomic.CompareAndSwapInt32", "internal/race.Enable", "internal/race.Acquire", "(*internal/sync.Mutex).lockSlow", "internal/sync.runtime_canSpin", "internal/sync.runtime_doSpin", "internal/sync.throw", "internal/sync.runtime_nanotime", "internal/sync.runtime_SemacquireMutex", "sync/atomic.AddInt32", "(*internal/sync.Mutex).Unlock", "internal/race.ReleaseMerge", "(*internal/sync.Mutex).unlockSlow", "internal/sync.fatal", "internal/sync.runtime_Semrelease", "(*sync.WaitGroup).Go", "(*sync.WaitGroup).Add", "internal/synctest.IsInBubble", "internal/synctest.Associate[sync.WaitGroup]", "sync.fatal", "sync/atomic.OrUint64", "sync/atomic.AddUint64", "internal/race.Read", "sync/atomic.LoadUint64", "sync/atomic.StoreUint64", "internal/synctest.Disassociate[sync.WaitGroup]", "sync.runtime_Semrelease", "(*sync.WaitGroup).Go$1", "(*sync.WaitGroup).Go$1$1", "(*sync.WaitGroup).Done", "(*sync.WaitGroup).Wait", "internal/synctest.IsAssociated[sync.WaitGroup]", "sync/atomic.CompareAndSwapUint64", "internal/race.Write", "sync.runtime_SemacquireWaitGroup"], unfollowed := true, recurses := true, leaving := true, apart := false, calm := true, outside := [.timePasses], narrowed := true }
def FnExactLeastLadderUptoSaid : Prop := fnExactLeastLadderUptoRow.holds Try.pinned (OpenSpec.upto fnExactLeastLadderSpec)

/-- 'laws.FnExactCountSquareLeans', WHERE WHAT IT READS IS OF BULK AT MOST 1048576: true; the input reads as it did. -/
def fnExactCountSquareLeansUptoRow : OpenClaim := { program := "ytjboffbhkffhkaa", sum := "f781f8d41ae78a1fe6d584a36ee325c99e536c92a316f3ba6432719c94699607", func := "loop.example/g01351/laws.FnExactCountSquareLeans", spec := "fnExactCountSquareLeans", apart := false, narrowed := true }
def FnExactCountSquareLeansUptoSaid : Prop := fnExactCountSquareLeansUptoRow.holds Try.pinned (OpenSpec.upto fnExactCountSquareLeansSpec)

/-- 'laws.FnExactGreatestSquareBox', WHERE WHAT IT READS IS OF BULK AT MOST 1048576: true; the input reads as it did. -/
def fnExactGreatestSquareBoxUptoRow : OpenClaim := { program := "ytjboffbhkffhkaa", sum := "f781f8d41ae78a1fe6d584a36ee325c99e536c92a316f3ba6432719c94699607", func := "loop.example/g01351/laws.FnExactGreatestSquareBox", spec := "fnExactGreatestSquareBox", apart := false, narrowed := true }
def FnExactGreatestSquareBoxUptoSaid : Prop := fnExactGreatestSquareBoxUptoRow.holds Try.pinned (OpenSpec.upto fnExactGreatestSquareBoxSpec)

/-- 'laws.FnExactSquareLeanSum', WHERE WHAT IT READS IS OF BULK AT MOST 1048576: true; the input reads as it did. -/
def fnExactSquareLeanSumUptoRow : OpenClaim := { program := "ytjboffbhkffhkaa", sum := "f781f8d41ae78a1fe6d584a36ee325c99e536c92a316f3ba6432719c94699607", func := "loop.example/g01351/laws.FnExactSquareLeanSum", spec := "fnExactSquareLeanSum", apart := false, narrowed := true }
def FnExactSquareLeanSumUptoSaid : Prop := fnExactSquareLeanSumUptoRow.holds Try.pinned (OpenSpec.upto fnExactSquareLeanSumSpec)

/-- 'laws.FnExactWholeSquareLeans', WHERE WHAT IT READS IS OF BULK AT MOST 1048576: true; the input reads as it did. -/
def fnExactWholeSquareLeansUptoRow : OpenClaim := { program := "ytjboffbhkffhkaa", sum := "f781f8d41ae78a1fe6d584a36ee325c99e536c92a316f3ba6432719c94699607", func := "loop.example/g01351/laws.FnExactWholeSquareLeans", spec := "fnExactWholeSquareLeans", apart := false, narrowed := true }
def FnExactWholeSquareLeansUptoSaid : Prop := fnExactWholeSquareLeansUptoRow.holds Try.pinned (OpenSpec.upto fnExactWholeSquareLeansSpec)

/-- 'laws.FnExactSlipHeights', WHERE WHAT IT READS IS OF BULK AT MOST 1048576: true; the input reads as it did. -/
def fnExactSlipHeightsUptoRow : OpenClaim := { program := "ytjboffbhkffhkaa", sum := "f781f8d41ae78a1fe6d584a36ee325c99e536c92a316f3ba6432719c94699607", func := "loop.example/g01351/laws.FnExactSlipHeights", spec := "fnExactSlipHeights", apart := false, narrowed := true }
def FnExactSlipHeightsUptoSaid : Prop := fnExactSlipHeightsUptoRow.holds Try.pinned (OpenSpec.upto fnExactSlipHeightsSpec)

/-- 'laws.FnExactSlipDrops', WHERE WHAT IT READS IS OF BULK AT MOST 1048576: true; the input reads as it did. -/
def fnExactSlipDropsUptoRow : OpenClaim := { program := "ytjboffbhkffhkaa", sum := "f781f8d41ae78a1fe6d584a36ee325c99e536c92a316f3ba6432719c94699607", func := "loop.example/g01351/laws.FnExactSlipDrops", spec := "fnExactSlipDrops", apart := false, narrowed := true }
def FnExactSlipDropsUptoSaid : Prop := fnExactSlipDropsUptoRow.holds Try.pinned (OpenSpec.upto fnExactSlipDropsSpec)

/-- 'laws.FnExactFootForHeight', WHERE WHAT IT READS IS OF BULK AT MOST 1048576: true; the input reads as it did. -/
def fnExactFootForHeightUptoRow : OpenClaim := { program := "ytjboffbhkffhkaa", sum := "f781f8d41ae78a1fe6d584a36ee325c99e536c92a316f3ba6432719c94699607", func := "loop.example/g01351/laws.FnExactFootForHeight", spec := "fnExactFootForHeight", apart := false, narrowed := true }
def FnExactFootForHeightUptoSaid : Prop := fnExactFootForHeightUptoRow.holds Try.pinned (OpenSpec.upto fnExactFootForHeightSpec)

/-- 'laws.FnExactMiddleOf', WHERE WHAT IT READS IS OF BULK AT MOST 1048576: true; the input reads as it did. -/
def fnExactMiddleOfUptoRow : OpenClaim := { program := "ytjboffbhkffhkaa", sum := "f781f8d41ae78a1fe6d584a36ee325c99e536c92a316f3ba6432719c94699607", func := "loop.example/g01351/laws.FnExactMiddleOf", spec := "fnExactMiddleOf", apart := false, narrowed := true }
def FnExactMiddleOfUptoSaid : Prop := fnExactMiddleOfUptoRow.holds Try.pinned (OpenSpec.upto fnExactMiddleOfSpec)

/-- 'laws.FnExactPartOfLadder', WHERE WHAT IT READS IS OF BULK AT MOST 1048576: true; the input reads as it did. -/
def fnExactPartOfLadderUptoRow : OpenClaim := { program := "ytjboffbhkffhkaa", sum := "f781f8d41ae78a1fe6d584a36ee325c99e536c92a316f3ba6432719c94699607", func := "loop.example/g01351/laws.FnExactPartOfLadder", spec := "fnExactPartOfLadder", apart := false, narrowed := true }
def FnExactPartOfLadderUptoSaid : Prop := fnExactPartOfLadderUptoRow.holds Try.pinned (OpenSpec.upto fnExactPartOfLadderSpec)

/-- 'laws.FnExactTurnBox', WHERE WHAT IT READS IS OF BULK AT MOST 1048576: true; the input reads as it did. -/
def fnExactTurnBoxUptoRow : OpenClaim := { program := "ytjboffbhkffhkaa", sum := "f781f8d41ae78a1fe6d584a36ee325c99e536c92a316f3ba6432719c94699607", func := "loop.example/g01351/laws.FnExactTurnBox", spec := "fnExactTurnBox", apart := false, narrowed := true }
def FnExactTurnBoxUptoSaid : Prop := fnExactTurnBoxUptoRow.holds Try.pinned (OpenSpec.upto fnExactTurnBoxSpec)

end Rows
end Go.Proofs.Ytjboffbhkffhkaa

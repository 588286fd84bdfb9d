/-
  No cell of these rows narrows 'for every input' (looked for: loops, veiled, ifaces, maps, wideKeys, modest, calm, conditions, laid).
  DERIVED. THE GIVEN ROWS OF THIS SEAT. 10 by the template 'for every input the law returns true; each argument reads behind the call as it read before'; 0 by the template 'total and deterministic' (their statements: YtdfeknpdeagecabTotals.lean).
  GIVEN WITH THE SEED: the statements are not yours to turn. If you find one false, say at which input.
  Laid BY PROGRAM, IN A SANDBOX (cutbox-rows.mjs): the forced cells as the released guide's own fill.sh prints them over the translation 8d8107e6ae5f69f4… (all of the seat's roots in one cut). By AI agents, Wed Nov 11 2026. No macro, syntax, notation, axiom, sorry.
-/
import Derived.Test.YtdfeknpdeagecabChecked
import GoSem.Claim
import GoSem.ClaimJoined
import GoSem.ClaimMapViews
import Derived.JoinedTies
import Derived.KernelRfl
namespace Go.Proofs.Ytdfeknpdeagecab
/- THE CELL 'sum', in the pinned program and in every row, IS THE sha256 OF THE DUMP (.gsa) THAT YtdfeknpdeagecabProg.lean LOADS. Nothing in Lean hashes anything: it is a label: what it is worth is what the hold of that sum in a sandbox is worth. -/
noncomputable def Try.pinned : Pinned := { name := "ytdfeknpdeagecab", sum := "8d8107e6ae5f69f4d0fdc74cac38dee59f4b74a76d8f08ec051e81300bc69635", checked := Try.checked }
namespace Rows
def none {H : Type} : Left H := { results := [], args := [] }

/-- 'laws.FnExactOtherHeight': WHATEVER THE INPUT: true; the input reads as it did. -/
def fnExactOtherHeightSpec : ChangeSpec := { name := "fnExactOtherHeight", fn := fun _ => fun
  | [d1, d2, d3] => { results := [.lit (.bool true)], args := [d1, d2, d3] }
  | _ => none }
def fnExactOtherHeightRow : OpenClaim := { program := "ytdfeknpdeagecab", sum := "8d8107e6ae5f69f4d0fdc74cac38dee59f4b74a76d8f08ec051e81300bc69635", func := "loop.example/g01351/laws.FnExactOtherHeight", spec := "fnExactOtherHeight", plainKeys := false, apart := false }
def FnExactOtherHeightSaid : Prop := fnExactOtherHeightRow.holds Try.pinned (OpenSpec.ofChange fnExactOtherHeightSpec)

/-- ITS FALSE NEIGHBOUR: 'it returns false'. Refute it at one input. -/
def fnExactOtherHeightWrong : ChangeSpec := { name := "fnExactOtherHeight", fn := fun _ => fun
  | [d1, d2, d3] => { results := [.lit (.bool false)], args := [d1, d2, d3] }
  | _ => none }
def FnExactOtherHeightWrongFalsely : Prop := fnExactOtherHeightRow.holds Try.pinned (OpenSpec.ofChange fnExactOtherHeightWrong)

/-- 'laws.FnExactPairsFor': WHATEVER THE INPUT: true; the input reads as it did. -/
def fnExactPairsForSpec : ChangeSpec := { name := "fnExactPairsFor", fn := fun _ => fun
  | [d] => { results := [.lit (.bool true)], args := [d] }
  | _ => none }
def fnExactPairsForRow : OpenClaim := { program := "ytdfeknpdeagecab", sum := "8d8107e6ae5f69f4d0fdc74cac38dee59f4b74a76d8f08ec051e81300bc69635", func := "loop.example/g01351/laws.FnExactPairsFor", spec := "fnExactPairsFor", plainKeys := false, apart := false }
def FnExactPairsForSaid : Prop := fnExactPairsForRow.holds Try.pinned (OpenSpec.ofChange fnExactPairsForSpec)

/-- ITS FALSE NEIGHBOUR: 'it returns false'. Refute it at one input. -/
def fnExactPairsForWrong : ChangeSpec := { name := "fnExactPairsFor", fn := fun _ => fun
  | [d] => { results := [.lit (.bool false)], args := [d] }
  | _ => none }
def FnExactPairsForWrongFalsely : Prop := fnExactPairsForRow.holds Try.pinned (OpenSpec.ofChange fnExactPairsForWrong)

/-- 'laws.FnExactCountPairs': WHATEVER THE INPUT: true; the input reads as it did. -/
def fnExactCountPairsSpec : ChangeSpec := { name := "fnExactCountPairs", fn := fun _ => fun
  | [d] => { results := [.lit (.bool true)], args := [d] }
  | _ => none }
def fnExactCountPairsRow : OpenClaim := { program := "ytdfeknpdeagecab", sum := "8d8107e6ae5f69f4d0fdc74cac38dee59f4b74a76d8f08ec051e81300bc69635", func := "loop.example/g01351/laws.FnExactCountPairs", spec := "fnExactCountPairs", plainKeys := false, apart := false }
def FnExactCountPairsSaid : Prop := fnExactCountPairsRow.holds Try.pinned (OpenSpec.ofChange fnExactCountPairsSpec)

/-- ITS FALSE NEIGHBOUR: 'it returns false'. Refute it at one input. -/
def fnExactCountPairsWrong : ChangeSpec := { name := "fnExactCountPairs", fn := fun _ => fun
  | [d] => { results := [.lit (.bool false)], args := [d] }
  | _ => none }
def FnExactCountPairsWrongFalsely : Prop := fnExactCountPairsRow.holds Try.pinned (OpenSpec.ofChange fnExactCountPairsWrong)

/-- 'laws.FnExactIsWholeCrossing': WHATEVER THE INPUT: true; the input reads as it did. -/
def fnExactIsWholeCrossingSpec : ChangeSpec := { name := "fnExactIsWholeCrossing", fn := fun _ => fun
  | [d] => { results := [.lit (.bool true)], args := [d] }
  | _ => none }
def fnExactIsWholeCrossingRow : OpenClaim := { program := "ytdfeknpdeagecab", sum := "8d8107e6ae5f69f4d0fdc74cac38dee59f4b74a76d8f08ec051e81300bc69635", func := "loop.example/g01351/laws.FnExactIsWholeCrossing", spec := "fnExactIsWholeCrossing", plainKeys := false, apart := false }
def FnExactIsWholeCrossingSaid : Prop := fnExactIsWholeCrossingRow.holds Try.pinned (OpenSpec.ofChange fnExactIsWholeCrossingSpec)

/-- ITS FALSE NEIGHBOUR: 'it returns false'. Refute it at one input. -/
def fnExactIsWholeCrossingWrong : ChangeSpec := { name := "fnExactIsWholeCrossing", fn := fun _ => fun
  | [d] => { results := [.lit (.bool false)], args := [d] }
  | _ => none }
def FnExactIsWholeCrossingWrongFalsely : Prop := fnExactIsWholeCrossingRow.holds Try.pinned (OpenSpec.ofChange fnExactIsWholeCrossingWrong)

/-- 'laws.FnExactWholeCrossings': WHATEVER THE INPUT: true; the input reads as it did. -/
def fnExactWholeCrossingsSpec : ChangeSpec := { name := "fnExactWholeCrossings", fn := fun _ => fun
  | [d] => { results := [.lit (.bool true)], args := [d] }
  | _ => none }
def fnExactWholeCrossingsRow : OpenClaim := { program := "ytdfeknpdeagecab", sum := "8d8107e6ae5f69f4d0fdc74cac38dee59f4b74a76d8f08ec051e81300bc69635", func := "loop.example/g01351/laws.FnExactWholeCrossings", spec := "fnExactWholeCrossings", plainKeys := false, apart := false }
def FnExactWholeCrossingsSaid : Prop := fnExactWholeCrossingsRow.holds Try.pinned (OpenSpec.ofChange fnExactWholeCrossingsSpec)

/-- ITS FALSE NEIGHBOUR: 'it returns false'. Refute it at one input. -/
def fnExactWholeCrossingsWrong : ChangeSpec := { name := "fnExactWholeCrossings", fn := fun _ => fun
  | [d] => { results := [.lit (.bool false)], args := [d] }
  | _ => none }
def FnExactWholeCrossingsWrongFalsely : Prop := fnExactWholeCrossingsRow.holds Try.pinned (OpenSpec.ofChange fnExactWholeCrossingsWrong)

/-- 'laws.FnExactLowestWhole': WHATEVER THE INPUT: true; the input reads as it did. -/
def fnExactLowestWholeSpec : ChangeSpec := { name := "fnExactLowestWhole", fn := fun _ => fun
  | [d] => { results := [.lit (.bool true)], args := [d] }
  | _ => none }
def fnExactLowestWholeRow : OpenClaim := { program := "ytdfeknpdeagecab", sum := "8d8107e6ae5f69f4d0fdc74cac38dee59f4b74a76d8f08ec051e81300bc69635", func := "loop.example/g01351/laws.FnExactLowestWhole", spec := "fnExactLowestWhole", plainKeys := false, apart := false }
def FnExactLowestWholeSaid : Prop := fnExactLowestWholeRow.holds Try.pinned (OpenSpec.ofChange fnExactLowestWholeSpec)

/-- ITS FALSE NEIGHBOUR: 'it returns false'. Refute it at one input. -/
def fnExactLowestWholeWrong : ChangeSpec := { name := "fnExactLowestWhole", fn := fun _ => fun
  | [d] => { results := [.lit (.bool false)], args := [d] }
  | _ => none }
def FnExactLowestWholeWrongFalsely : Prop := fnExactLowestWholeRow.holds Try.pinned (OpenSpec.ofChange fnExactLowestWholeWrong)

/-- 'laws.FnExactLongestStick': WHATEVER THE INPUT: true; the input reads as it did. -/
def fnExactLongestStickSpec : ChangeSpec := { name := "fnExactLongestStick", fn := fun _ => fun
  | [d] => { results := [.lit (.bool true)], args := [d] }
  | _ => none }
def fnExactLongestStickRow : OpenClaim := { program := "ytdfeknpdeagecab", sum := "8d8107e6ae5f69f4d0fdc74cac38dee59f4b74a76d8f08ec051e81300bc69635", func := "loop.example/g01351/laws.FnExactLongestStick", spec := "fnExactLongestStick", plainKeys := false, apart := false }
def FnExactLongestStickSaid : Prop := fnExactLongestStickRow.holds Try.pinned (OpenSpec.ofChange fnExactLongestStickSpec)

/-- ITS FALSE NEIGHBOUR: 'it returns false'. Refute it at one input. -/
def fnExactLongestStickWrong : ChangeSpec := { name := "fnExactLongestStick", fn := fun _ => fun
  | [d] => { results := [.lit (.bool false)], args := [d] }
  | _ => none }
def FnExactLongestStickWrongFalsely : Prop := fnExactLongestStickRow.holds Try.pinned (OpenSpec.ofChange fnExactLongestStickWrong)

/-- 'laws.FnExactMoveWall': WHATEVER THE INPUT: true; the input reads as it did. -/
def fnExactMoveWallSpec : ChangeSpec := { name := "fnExactMoveWall", fn := fun _ => fun
  | [d1, d2] => { results := [.lit (.bool true)], args := [d1, d2] }
  | _ => none }
def fnExactMoveWallRow : OpenClaim := { program := "ytdfeknpdeagecab", sum := "8d8107e6ae5f69f4d0fdc74cac38dee59f4b74a76d8f08ec051e81300bc69635", func := "loop.example/g01351/laws.FnExactMoveWall", spec := "fnExactMoveWall", plainKeys := false, apart := false }
def FnExactMoveWallSaid : Prop := fnExactMoveWallRow.holds Try.pinned (OpenSpec.ofChange fnExactMoveWallSpec)

/-- ITS FALSE NEIGHBOUR: 'it returns false'. Refute it at one input. -/
def fnExactMoveWallWrong : ChangeSpec := { name := "fnExactMoveWall", fn := fun _ => fun
  | [d1, d2] => { results := [.lit (.bool false)], args := [d1, d2] }
  | _ => none }
def FnExactMoveWallWrongFalsely : Prop := fnExactMoveWallRow.holds Try.pinned (OpenSpec.ofChange fnExactMoveWallWrong)

/-- 'laws.FnExactTimesLadders': WHATEVER THE INPUT: true; the input reads as it did. -/
def fnExactTimesLaddersSpec : ChangeSpec := { name := "fnExactTimesLadders", fn := fun _ => fun
  | [d1, d2] => { results := [.lit (.bool true)], args := [d1, d2] }
  | _ => none }
def fnExactTimesLaddersRow : OpenClaim := { program := "ytdfeknpdeagecab", sum := "8d8107e6ae5f69f4d0fdc74cac38dee59f4b74a76d8f08ec051e81300bc69635", func := "loop.example/g01351/laws.FnExactTimesLadders", spec := "fnExactTimesLadders", plainKeys := false, apart := false }
def FnExactTimesLaddersSaid : Prop := fnExactTimesLaddersRow.holds Try.pinned (OpenSpec.ofChange fnExactTimesLaddersSpec)

/-- ITS FALSE NEIGHBOUR: 'it returns false'. Refute it at one input. -/
def fnExactTimesLaddersWrong : ChangeSpec := { name := "fnExactTimesLadders", fn := fun _ => fun
  | [d1, d2] => { results := [.lit (.bool false)], args := [d1, d2] }
  | _ => none }
def FnExactTimesLaddersWrongFalsely : Prop := fnExactTimesLaddersRow.holds Try.pinned (OpenSpec.ofChange fnExactTimesLaddersWrong)

/-- 'laws.FnExactMirrorLadders': WHATEVER THE INPUT: true; the input reads as it did. -/
def fnExactMirrorLaddersSpec : ChangeSpec := { name := "fnExactMirrorLadders", fn := fun _ => fun
  | [d] => { results := [.lit (.bool true)], args := [d] }
  | _ => none }
def fnExactMirrorLaddersRow : OpenClaim := { program := "ytdfeknpdeagecab", sum := "8d8107e6ae5f69f4d0fdc74cac38dee59f4b74a76d8f08ec051e81300bc69635", func := "loop.example/g01351/laws.FnExactMirrorLadders", spec := "fnExactMirrorLadders", plainKeys := false, apart := false }
def FnExactMirrorLaddersSaid : Prop := fnExactMirrorLaddersRow.holds Try.pinned (OpenSpec.ofChange fnExactMirrorLaddersSpec)

/-- ITS FALSE NEIGHBOUR: 'it returns false'. Refute it at one input. -/
def fnExactMirrorLaddersWrong : ChangeSpec := { name := "fnExactMirrorLadders", fn := fun _ => fun
  | [d] => { results := [.lit (.bool false)], args := [d] }
  | _ => none }
def FnExactMirrorLaddersWrongFalsely : Prop := fnExactMirrorLaddersRow.holds Try.pinned (OpenSpec.ofChange fnExactMirrorLaddersWrong)

/- THE SECOND FORM. 'bulk': how many values and letters a reading holds, each counted each time it is reached (what is shared counts as often as it is met; a slice's spare places count too). A statement '..UptoSaid' is the law's where the arguments, and the package variables that the reading takes, are together of bulk at most 1048576: NARROWER than '..Said'. Prove '..Said' where nothing that the law and all that it calls make is longer than what came in: it says more and counts as full. Else prove '..UptoSaid'. A law counts once. -/
mutual
def uptoBulk {H : Type} : DataW H → Nat
  | .lit (.string bytes) => bytes.length + 1
  | .lit _ => 1
  | .nil => 1
  | .ptr d => uptoBulk d + 1
  | .slice elems spare => uptoBulkAll elems + uptoBulkAll spare + 1
  | .agg parts => uptoBulkAll parts + 1
  | .iface _ d => uptoBulk d + 1
  | .map entries => uptoBulkEntries entries + 1
  | .held _ => 1
def uptoBulkAll {H : Type} : List (DataW H) → Nat
  | [] => 0
  | d :: r => uptoBulk d + uptoBulkAll r
def uptoBulkEntries {H : Type} : List (Lit × DataW H) → Nat
  | [] => 0
  | x :: r => uptoBulkEntry x + uptoBulkEntries r
def uptoBulkEntry {H : Type} : Lit × DataW H → Nat
  | (.string bytes, d) => bytes.length + uptoBulk d + 1
  | (_, d) => uptoBulk d + 1
 end
def uptoSmall : (H : Type) → List (DataW H) → Bool := fun _ ds => decide (uptoBulkAll ds ≤ 1048576)
def OpenSpec.upto (s : _root_.Go.ChangeSpec) : _root_.Go.OpenSpec := { _root_.Go.OpenSpec.ofChange s with cond := some uptoSmall }

/-- 'laws.FnExactOtherHeight', WHERE WHAT IT READS IS OF BULK AT MOST 1048576: true; the input reads as it did. -/
def fnExactOtherHeightUptoRow : OpenClaim := { program := "ytdfeknpdeagecab", sum := "8d8107e6ae5f69f4d0fdc74cac38dee59f4b74a76d8f08ec051e81300bc69635", func := "loop.example/g01351/laws.FnExactOtherHeight", spec := "fnExactOtherHeight", plainKeys := false, apart := false, narrowed := true }
def FnExactOtherHeightUptoSaid : Prop := fnExactOtherHeightUptoRow.holds Try.pinned (OpenSpec.upto fnExactOtherHeightSpec)

/-- 'laws.FnExactPairsFor', WHERE WHAT IT READS IS OF BULK AT MOST 1048576: true; the input reads as it did. -/
def fnExactPairsForUptoRow : OpenClaim := { program := "ytdfeknpdeagecab", sum := "8d8107e6ae5f69f4d0fdc74cac38dee59f4b74a76d8f08ec051e81300bc69635", func := "loop.example/g01351/laws.FnExactPairsFor", spec := "fnExactPairsFor", plainKeys := false, apart := false, narrowed := true }
def FnExactPairsForUptoSaid : Prop := fnExactPairsForUptoRow.holds Try.pinned (OpenSpec.upto fnExactPairsForSpec)

/-- 'laws.FnExactCountPairs', WHERE WHAT IT READS IS OF BULK AT MOST 1048576: true; the input reads as it did. -/
def fnExactCountPairsUptoRow : OpenClaim := { program := "ytdfeknpdeagecab", sum := "8d8107e6ae5f69f4d0fdc74cac38dee59f4b74a76d8f08ec051e81300bc69635", func := "loop.example/g01351/laws.FnExactCountPairs", spec := "fnExactCountPairs", plainKeys := false, apart := false, narrowed := true }
def FnExactCountPairsUptoSaid : Prop := fnExactCountPairsUptoRow.holds Try.pinned (OpenSpec.upto fnExactCountPairsSpec)

/-- 'laws.FnExactIsWholeCrossing', WHERE WHAT IT READS IS OF BULK AT MOST 1048576: true; the input reads as it did. -/
def fnExactIsWholeCrossingUptoRow : OpenClaim := { program := "ytdfeknpdeagecab", sum := "8d8107e6ae5f69f4d0fdc74cac38dee59f4b74a76d8f08ec051e81300bc69635", func := "loop.example/g01351/laws.FnExactIsWholeCrossing", spec := "fnExactIsWholeCrossing", plainKeys := false, apart := false, narrowed := true }
def FnExactIsWholeCrossingUptoSaid : Prop := fnExactIsWholeCrossingUptoRow.holds Try.pinned (OpenSpec.upto fnExactIsWholeCrossingSpec)

/-- 'laws.FnExactWholeCrossings', WHERE WHAT IT READS IS OF BULK AT MOST 1048576: true; the input reads as it did. -/
def fnExactWholeCrossingsUptoRow : OpenClaim := { program := "ytdfeknpdeagecab", sum := "8d8107e6ae5f69f4d0fdc74cac38dee59f4b74a76d8f08ec051e81300bc69635", func := "loop.example/g01351/laws.FnExactWholeCrossings", spec := "fnExactWholeCrossings", plainKeys := false, apart := false, narrowed := true }
def FnExactWholeCrossingsUptoSaid : Prop := fnExactWholeCrossingsUptoRow.holds Try.pinned (OpenSpec.upto fnExactWholeCrossingsSpec)

/-- 'laws.FnExactLowestWhole', WHERE WHAT IT READS IS OF BULK AT MOST 1048576: true; the input reads as it did. -/
def fnExactLowestWholeUptoRow : OpenClaim := { program := "ytdfeknpdeagecab", sum := "8d8107e6ae5f69f4d0fdc74cac38dee59f4b74a76d8f08ec051e81300bc69635", func := "loop.example/g01351/laws.FnExactLowestWhole", spec := "fnExactLowestWhole", plainKeys := false, apart := false, narrowed := true }
def FnExactLowestWholeUptoSaid : Prop := fnExactLowestWholeUptoRow.holds Try.pinned (OpenSpec.upto fnExactLowestWholeSpec)

/-- 'laws.FnExactLongestStick', WHERE WHAT IT READS IS OF BULK AT MOST 1048576: true; the input reads as it did. -/
def fnExactLongestStickUptoRow : OpenClaim := { program := "ytdfeknpdeagecab", sum := "8d8107e6ae5f69f4d0fdc74cac38dee59f4b74a76d8f08ec051e81300bc69635", func := "loop.example/g01351/laws.FnExactLongestStick", spec := "fnExactLongestStick", plainKeys := false, apart := false, narrowed := true }
def FnExactLongestStickUptoSaid : Prop := fnExactLongestStickUptoRow.holds Try.pinned (OpenSpec.upto fnExactLongestStickSpec)

/-- 'laws.FnExactMoveWall', WHERE WHAT IT READS IS OF BULK AT MOST 1048576: true; the input reads as it did. -/
def fnExactMoveWallUptoRow : OpenClaim := { program := "ytdfeknpdeagecab", sum := "8d8107e6ae5f69f4d0fdc74cac38dee59f4b74a76d8f08ec051e81300bc69635", func := "loop.example/g01351/laws.FnExactMoveWall", spec := "fnExactMoveWall", plainKeys := false, apart := false, narrowed := true }
def FnExactMoveWallUptoSaid : Prop := fnExactMoveWallUptoRow.holds Try.pinned (OpenSpec.upto fnExactMoveWallSpec)

/-- 'laws.FnExactTimesLadders', WHERE WHAT IT READS IS OF BULK AT MOST 1048576: true; the input reads as it did. -/
def fnExactTimesLaddersUptoRow : OpenClaim := { program := "ytdfeknpdeagecab", sum := "8d8107e6ae5f69f4d0fdc74cac38dee59f4b74a76d8f08ec051e81300bc69635", func := "loop.example/g01351/laws.FnExactTimesLadders", spec := "fnExactTimesLadders", plainKeys := false, apart := false, narrowed := true }
def FnExactTimesLaddersUptoSaid : Prop := fnExactTimesLaddersUptoRow.holds Try.pinned (OpenSpec.upto fnExactTimesLaddersSpec)

/-- 'laws.FnExactMirrorLadders', WHERE WHAT IT READS IS OF BULK AT MOST 1048576: true; the input reads as it did. -/
def fnExactMirrorLaddersUptoRow : OpenClaim := { program := "ytdfeknpdeagecab", sum := "8d8107e6ae5f69f4d0fdc74cac38dee59f4b74a76d8f08ec051e81300bc69635", func := "loop.example/g01351/laws.FnExactMirrorLadders", spec := "fnExactMirrorLadders", plainKeys := false, apart := false, narrowed := true }
def FnExactMirrorLaddersUptoSaid : Prop := fnExactMirrorLaddersUptoRow.holds Try.pinned (OpenSpec.upto fnExactMirrorLaddersSpec)

end Rows
end Go.Proofs.Ytdfeknpdeagecab

/-
  No cell of these rows narrows 'for every input' (looked for: loops, veiled, ifaces, maps, wideKeys, modest, calm, conditions, laid).
  DERIVED. THE GIVEN ROWS OF THIS SEAT. 9 by the template 'for every input the law returns true; each argument reads behind the call as it read before'; 0 by the template 'total and deterministic' (their statements: YtdfeknpdeagecaaTotals.lean).
  GIVEN WITH THE SEED: the statements are not yours to turn. If you find one false, say at which input.
  Laid BY PROGRAM, IN A SANDBOX (cutbox-rows.mjs): the forced cells as the released guide's own fill.sh prints them over the translation 4137b3087f3310bd… (all of the seat's roots in one cut). By AI agents, Wed Nov 11 2026. No macro, syntax, notation, axiom, sorry.
-/
import Derived.Test.YtdfeknpdeagecaaChecked
import GoSem.Claim
import GoSem.ClaimJoined
import GoSem.ClaimMapViews
import Derived.JoinedTies
import Derived.KernelRfl
namespace Go.Proofs.Ytdfeknpdeagecaa
/- THE CELL 'sum', in the pinned program and in every row, IS THE sha256 OF THE DUMP (.gsa) THAT YtdfeknpdeagecaaProg.lean LOADS. Nothing in Lean hashes anything: it is a label: what it is worth is what the hold of that sum in a sandbox is worth. -/
noncomputable def Try.pinned : Pinned := { name := "ytdfeknpdeagecaa", sum := "4137b3087f3310bdad6f7c5b18a33b4a6091071bdb407a2c25c99b94f24319f9", checked := Try.checked }
namespace Rows
def none {H : Type} : Left H := { results := [], args := [] }

/-- 'laws.FnExactAreLadders': WHATEVER THE INPUT: true; the input reads as it did. -/
def fnExactAreLaddersSpec : ChangeSpec := { name := "fnExactAreLadders", fn := fun _ => fun
  | [d] => { results := [.lit (.bool true)], args := [d] }
  | _ => none }
def fnExactAreLaddersRow : OpenClaim := { program := "ytdfeknpdeagecaa", sum := "4137b3087f3310bdad6f7c5b18a33b4a6091071bdb407a2c25c99b94f24319f9", func := "loop.example/g01351/laws.FnExactAreLadders", spec := "fnExactAreLadders", apart := false }
def FnExactAreLaddersSaid : Prop := fnExactAreLaddersRow.holds Try.pinned (OpenSpec.ofChange fnExactAreLaddersSpec)

/-- ITS FALSE NEIGHBOUR: 'it returns false'. Refute it at one input. -/
def fnExactAreLaddersWrong : ChangeSpec := { name := "fnExactAreLadders", fn := fun _ => fun
  | [d] => { results := [.lit (.bool false)], args := [d] }
  | _ => none }
def FnExactAreLaddersWrongFalsely : Prop := fnExactAreLaddersRow.holds Try.pinned (OpenSpec.ofChange fnExactAreLaddersWrong)

/-- 'laws.FnExactCrossHeight': WHATEVER THE INPUT: true; the input reads as it did. -/
def fnExactCrossHeightSpec : ChangeSpec := { name := "fnExactCrossHeight", fn := fun _ => fun
  | [d] => { results := [.lit (.bool true)], args := [d] }
  | _ => none }
def fnExactCrossHeightRow : OpenClaim := { program := "ytdfeknpdeagecaa", sum := "4137b3087f3310bdad6f7c5b18a33b4a6091071bdb407a2c25c99b94f24319f9", func := "loop.example/g01351/laws.FnExactCrossHeight", spec := "fnExactCrossHeight", apart := false }
def FnExactCrossHeightSaid : Prop := fnExactCrossHeightRow.holds Try.pinned (OpenSpec.ofChange fnExactCrossHeightSpec)

/-- ITS FALSE NEIGHBOUR: 'it returns false'. Refute it at one input. -/
def fnExactCrossHeightWrong : ChangeSpec := { name := "fnExactCrossHeight", fn := fun _ => fun
  | [d] => { results := [.lit (.bool false)], args := [d] }
  | _ => none }
def FnExactCrossHeightWrongFalsely : Prop := fnExactCrossHeightRow.holds Try.pinned (OpenSpec.ofChange fnExactCrossHeightWrong)

/-- 'laws.FnExactCrossPlace': WHATEVER THE INPUT: true; the input reads as it did. -/
def fnExactCrossPlaceSpec : ChangeSpec := { name := "fnExactCrossPlace", fn := fun _ => fun
  | [d] => { results := [.lit (.bool true)], args := [d] }
  | _ => none }
def fnExactCrossPlaceRow : OpenClaim := { program := "ytdfeknpdeagecaa", sum := "4137b3087f3310bdad6f7c5b18a33b4a6091071bdb407a2c25c99b94f24319f9", func := "loop.example/g01351/laws.FnExactCrossPlace", spec := "fnExactCrossPlace", apart := false }
def FnExactCrossPlaceSaid : Prop := fnExactCrossPlaceRow.holds Try.pinned (OpenSpec.ofChange fnExactCrossPlaceSpec)

/-- ITS FALSE NEIGHBOUR: 'it returns false'. Refute it at one input. -/
def fnExactCrossPlaceWrong : ChangeSpec := { name := "fnExactCrossPlace", fn := fun _ => fun
  | [d] => { results := [.lit (.bool false)], args := [d] }
  | _ => none }
def FnExactCrossPlaceWrongFalsely : Prop := fnExactCrossPlaceRow.holds Try.pinned (OpenSpec.ofChange fnExactCrossPlaceWrong)

/-- 'laws.FnExactSquaresOf': WHATEVER THE INPUT: true; the input reads as it did. -/
def fnExactSquaresOfSpec : ChangeSpec := { name := "fnExactSquaresOf", fn := fun _ => fun
  | [d] => { results := [.lit (.bool true)], args := [d] }
  | _ => none }
def fnExactSquaresOfRow : OpenClaim := { program := "ytdfeknpdeagecaa", sum := "4137b3087f3310bdad6f7c5b18a33b4a6091071bdb407a2c25c99b94f24319f9", func := "loop.example/g01351/laws.FnExactSquaresOf", spec := "fnExactSquaresOf", apart := false }
def FnExactSquaresOfSaid : Prop := fnExactSquaresOfRow.holds Try.pinned (OpenSpec.ofChange fnExactSquaresOfSpec)

/-- ITS FALSE NEIGHBOUR: 'it returns false'. Refute it at one input. -/
def fnExactSquaresOfWrong : ChangeSpec := { name := "fnExactSquaresOf", fn := fun _ => fun
  | [d] => { results := [.lit (.bool false)], args := [d] }
  | _ => none }
def FnExactSquaresOfWrongFalsely : Prop := fnExactSquaresOfRow.holds Try.pinned (OpenSpec.ofChange fnExactSquaresOfWrong)

/-- 'laws.FnExactLengthsOf': WHATEVER THE INPUT: true; the input reads as it did. -/
def fnExactLengthsOfSpec : ChangeSpec := { name := "fnExactLengthsOf", fn := fun _ => fun
  | [d] => { results := [.lit (.bool true)], args := [d] }
  | _ => none }
def fnExactLengthsOfRow : OpenClaim := { program := "ytdfeknpdeagecaa", sum := "4137b3087f3310bdad6f7c5b18a33b4a6091071bdb407a2c25c99b94f24319f9", func := "loop.example/g01351/laws.FnExactLengthsOf", spec := "fnExactLengthsOf", apart := false }
def FnExactLengthsOfSaid : Prop := fnExactLengthsOfRow.holds Try.pinned (OpenSpec.ofChange fnExactLengthsOfSpec)

/-- ITS FALSE NEIGHBOUR: 'it returns false'. Refute it at one input. -/
def fnExactLengthsOfWrong : ChangeSpec := { name := "fnExactLengthsOf", fn := fun _ => fun
  | [d] => { results := [.lit (.bool false)], args := [d] }
  | _ => none }
def FnExactLengthsOfWrongFalsely : Prop := fnExactLengthsOfRow.holds Try.pinned (OpenSpec.ofChange fnExactLengthsOfWrong)

/-- 'laws.FnExactHeightAt': WHATEVER THE INPUT: true; the input reads as it did. -/
def fnExactHeightAtSpec : ChangeSpec := { name := "fnExactHeightAt", fn := fun _ => fun
  | [d1, d2, d3] => { results := [.lit (.bool true)], args := [d1, d2, d3] }
  | _ => none }
def fnExactHeightAtRow : OpenClaim := { program := "ytdfeknpdeagecaa", sum := "4137b3087f3310bdad6f7c5b18a33b4a6091071bdb407a2c25c99b94f24319f9", func := "loop.example/g01351/laws.FnExactHeightAt", spec := "fnExactHeightAt", apart := false }
def FnExactHeightAtSaid : Prop := fnExactHeightAtRow.holds Try.pinned (OpenSpec.ofChange fnExactHeightAtSpec)

/-- ITS FALSE NEIGHBOUR: 'it returns false'. Refute it at one input. -/
def fnExactHeightAtWrong : ChangeSpec := { name := "fnExactHeightAt", fn := fun _ => fun
  | [d1, d2, d3] => { results := [.lit (.bool false)], args := [d1, d2, d3] }
  | _ => none }
def FnExactHeightAtWrongFalsely : Prop := fnExactHeightAtRow.holds Try.pinned (OpenSpec.ofChange fnExactHeightAtWrong)

/-- 'laws.FnExactHighestAt': WHATEVER THE INPUT: true; the input reads as it did. -/
def fnExactHighestAtSpec : ChangeSpec := { name := "fnExactHighestAt", fn := fun _ => fun
  | [d1, d2] => { results := [.lit (.bool true)], args := [d1, d2] }
  | _ => none }
def fnExactHighestAtRow : OpenClaim := { program := "ytdfeknpdeagecaa", sum := "4137b3087f3310bdad6f7c5b18a33b4a6091071bdb407a2c25c99b94f24319f9", func := "loop.example/g01351/laws.FnExactHighestAt", spec := "fnExactHighestAt", apart := false }
def FnExactHighestAtSaid : Prop := fnExactHighestAtRow.holds Try.pinned (OpenSpec.ofChange fnExactHighestAtSpec)

/-- ITS FALSE NEIGHBOUR: 'it returns false'. Refute it at one input. -/
def fnExactHighestAtWrong : ChangeSpec := { name := "fnExactHighestAt", fn := fun _ => fun
  | [d1, d2] => { results := [.lit (.bool false)], args := [d1, d2] }
  | _ => none }
def FnExactHighestAtWrongFalsely : Prop := fnExactHighestAtRow.holds Try.pinned (OpenSpec.ofChange fnExactHighestAtWrong)

/-- 'laws.FnExactAreaBelow': WHATEVER THE INPUT: true; the input reads as it did. -/
def fnExactAreaBelowSpec : ChangeSpec := { name := "fnExactAreaBelow", fn := fun _ => fun
  | [d] => { results := [.lit (.bool true)], args := [d] }
  | _ => none }
def fnExactAreaBelowRow : OpenClaim := { program := "ytdfeknpdeagecaa", sum := "4137b3087f3310bdad6f7c5b18a33b4a6091071bdb407a2c25c99b94f24319f9", func := "loop.example/g01351/laws.FnExactAreaBelow", spec := "fnExactAreaBelow", apart := false }
def FnExactAreaBelowSaid : Prop := fnExactAreaBelowRow.holds Try.pinned (OpenSpec.ofChange fnExactAreaBelowSpec)

/-- ITS FALSE NEIGHBOUR: 'it returns false'. Refute it at one input. -/
def fnExactAreaBelowWrong : ChangeSpec := { name := "fnExactAreaBelow", fn := fun _ => fun
  | [d] => { results := [.lit (.bool false)], args := [d] }
  | _ => none }
def FnExactAreaBelowWrongFalsely : Prop := fnExactAreaBelowRow.holds Try.pinned (OpenSpec.ofChange fnExactAreaBelowWrong)

/-- 'laws.FnExactAreaBetween': WHATEVER THE INPUT: true; the input reads as it did. -/
def fnExactAreaBetweenSpec : ChangeSpec := { name := "fnExactAreaBetween", fn := fun _ => fun
  | [d] => { results := [.lit (.bool true)], args := [d] }
  | _ => none }
def fnExactAreaBetweenRow : OpenClaim := { program := "ytdfeknpdeagecaa", sum := "4137b3087f3310bdad6f7c5b18a33b4a6091071bdb407a2c25c99b94f24319f9", func := "loop.example/g01351/laws.FnExactAreaBetween", spec := "fnExactAreaBetween", apart := false }
def FnExactAreaBetweenSaid : Prop := fnExactAreaBetweenRow.holds Try.pinned (OpenSpec.ofChange fnExactAreaBetweenSpec)

/-- ITS FALSE NEIGHBOUR: 'it returns false'. Refute it at one input. -/
def fnExactAreaBetweenWrong : ChangeSpec := { name := "fnExactAreaBetween", fn := fun _ => fun
  | [d] => { results := [.lit (.bool false)], args := [d] }
  | _ => none }
def FnExactAreaBetweenWrongFalsely : Prop := fnExactAreaBetweenRow.holds Try.pinned (OpenSpec.ofChange fnExactAreaBetweenWrong)

/- THE SECOND FORM. 'bulk': how many values and letters a reading holds, each counted each time it is reached (what is shared counts as often as it is met; a slice's spare places count too). A statement '..UptoSaid' is the law's where the arguments, and the package variables that the reading takes, are together of bulk at most 1048576: NARROWER than '..Said'. Prove '..Said' where nothing that the law and all that it calls make is longer than what came in: it says more and counts as full. Else prove '..UptoSaid'. A law counts once. -/
mutual
def uptoBulk {H : Type} : DataW H → Nat
  | .lit (.string bytes) => bytes.length + 1
  | .lit _ => 1
  | .nil => 1
  | .ptr d => uptoBulk d + 1
  | .slice elems spare => uptoBulkAll elems + uptoBulkAll spare + 1
  | .agg parts => uptoBulkAll parts + 1
  | .iface _ d => uptoBulk d + 1
  | .map entries => uptoBulkEntries entries + 1
  | .held _ => 1
def uptoBulkAll {H : Type} : List (DataW H) → Nat
  | [] => 0
  | d :: r => uptoBulk d + uptoBulkAll r
def uptoBulkEntries {H : Type} : List (Lit × DataW H) → Nat
  | [] => 0
  | x :: r => uptoBulkEntry x + uptoBulkEntries r
def uptoBulkEntry {H : Type} : Lit × DataW H → Nat
  | (.string bytes, d) => bytes.length + uptoBulk d + 1
  | (_, d) => uptoBulk d + 1
 end
def uptoSmall : (H : Type) → List (DataW H) → Bool := fun _ ds => decide (uptoBulkAll ds ≤ 1048576)
def OpenSpec.upto (s : _root_.Go.ChangeSpec) : _root_.Go.OpenSpec := { _root_.Go.OpenSpec.ofChange s with cond := some uptoSmall }

/-- 'laws.FnExactAreLadders', WHERE WHAT IT READS IS OF BULK AT MOST 1048576: true; the input reads as it did. -/
def fnExactAreLaddersUptoRow : OpenClaim := { program := "ytdfeknpdeagecaa", sum := "4137b3087f3310bdad6f7c5b18a33b4a6091071bdb407a2c25c99b94f24319f9", func := "loop.example/g01351/laws.FnExactAreLadders", spec := "fnExactAreLadders", apart := false, narrowed := true }
def FnExactAreLaddersUptoSaid : Prop := fnExactAreLaddersUptoRow.holds Try.pinned (OpenSpec.upto fnExactAreLaddersSpec)

/-- 'laws.FnExactCrossHeight', WHERE WHAT IT READS IS OF BULK AT MOST 1048576: true; the input reads as it did. -/
def fnExactCrossHeightUptoRow : OpenClaim := { program := "ytdfeknpdeagecaa", sum := "4137b3087f3310bdad6f7c5b18a33b4a6091071bdb407a2c25c99b94f24319f9", func := "loop.example/g01351/laws.FnExactCrossHeight", spec := "fnExactCrossHeight", apart := false, narrowed := true }
def FnExactCrossHeightUptoSaid : Prop := fnExactCrossHeightUptoRow.holds Try.pinned (OpenSpec.upto fnExactCrossHeightSpec)

/-- 'laws.FnExactCrossPlace', WHERE WHAT IT READS IS OF BULK AT MOST 1048576: true; the input reads as it did. -/
def fnExactCrossPlaceUptoRow : OpenClaim := { program := "ytdfeknpdeagecaa", sum := "4137b3087f3310bdad6f7c5b18a33b4a6091071bdb407a2c25c99b94f24319f9", func := "loop.example/g01351/laws.FnExactCrossPlace", spec := "fnExactCrossPlace", apart := false, narrowed := true }
def FnExactCrossPlaceUptoSaid : Prop := fnExactCrossPlaceUptoRow.holds Try.pinned (OpenSpec.upto fnExactCrossPlaceSpec)

/-- 'laws.FnExactSquaresOf', WHERE WHAT IT READS IS OF BULK AT MOST 1048576: true; the input reads as it did. -/
def fnExactSquaresOfUptoRow : OpenClaim := { program := "ytdfeknpdeagecaa", sum := "4137b3087f3310bdad6f7c5b18a33b4a6091071bdb407a2c25c99b94f24319f9", func := "loop.example/g01351/laws.FnExactSquaresOf", spec := "fnExactSquaresOf", apart := false, narrowed := true }
def FnExactSquaresOfUptoSaid : Prop := fnExactSquaresOfUptoRow.holds Try.pinned (OpenSpec.upto fnExactSquaresOfSpec)

/-- 'laws.FnExactLengthsOf', WHERE WHAT IT READS IS OF BULK AT MOST 1048576: true; the input reads as it did. -/
def fnExactLengthsOfUptoRow : OpenClaim := { program := "ytdfeknpdeagecaa", sum := "4137b3087f3310bdad6f7c5b18a33b4a6091071bdb407a2c25c99b94f24319f9", func := "loop.example/g01351/laws.FnExactLengthsOf", spec := "fnExactLengthsOf", apart := false, narrowed := true }
def FnExactLengthsOfUptoSaid : Prop := fnExactLengthsOfUptoRow.holds Try.pinned (OpenSpec.upto fnExactLengthsOfSpec)

/-- 'laws.FnExactHeightAt', WHERE WHAT IT READS IS OF BULK AT MOST 1048576: true; the input reads as it did. -/
def fnExactHeightAtUptoRow : OpenClaim := { program := "ytdfeknpdeagecaa", sum := "4137b3087f3310bdad6f7c5b18a33b4a6091071bdb407a2c25c99b94f24319f9", func := "loop.example/g01351/laws.FnExactHeightAt", spec := "fnExactHeightAt", apart := false, narrowed := true }
def FnExactHeightAtUptoSaid : Prop := fnExactHeightAtUptoRow.holds Try.pinned (OpenSpec.upto fnExactHeightAtSpec)

/-- 'laws.FnExactHighestAt', WHERE WHAT IT READS IS OF BULK AT MOST 1048576: true; the input reads as it did. -/
def fnExactHighestAtUptoRow : OpenClaim := { program := "ytdfeknpdeagecaa", sum := "4137b3087f3310bdad6f7c5b18a33b4a6091071bdb407a2c25c99b94f24319f9", func := "loop.example/g01351/laws.FnExactHighestAt", spec := "fnExactHighestAt", apart := false, narrowed := true }
def FnExactHighestAtUptoSaid : Prop := fnExactHighestAtUptoRow.holds Try.pinned (OpenSpec.upto fnExactHighestAtSpec)

/-- 'laws.FnExactAreaBelow', WHERE WHAT IT READS IS OF BULK AT MOST 1048576: true; the input reads as it did. -/
def fnExactAreaBelowUptoRow : OpenClaim := { program := "ytdfeknpdeagecaa", sum := "4137b3087f3310bdad6f7c5b18a33b4a6091071bdb407a2c25c99b94f24319f9", func := "loop.example/g01351/laws.FnExactAreaBelow", spec := "fnExactAreaBelow", apart := false, narrowed := true }
def FnExactAreaBelowUptoSaid : Prop := fnExactAreaBelowUptoRow.holds Try.pinned (OpenSpec.upto fnExactAreaBelowSpec)

/-- 'laws.FnExactAreaBetween', WHERE WHAT IT READS IS OF BULK AT MOST 1048576: true; the input reads as it did. -/
def fnExactAreaBetweenUptoRow : OpenClaim := { program := "ytdfeknpdeagecaa", sum := "4137b3087f3310bdad6f7c5b18a33b4a6091071bdb407a2c25c99b94f24319f9", func := "loop.example/g01351/laws.FnExactAreaBetween", spec := "fnExactAreaBetween", apart := false, narrowed := true }
def FnExactAreaBetweenUptoSaid : Prop := fnExactAreaBetweenUptoRow.holds Try.pinned (OpenSpec.upto fnExactAreaBetweenSpec)

end Rows
end Go.Proofs.Ytdfeknpdeagecaa

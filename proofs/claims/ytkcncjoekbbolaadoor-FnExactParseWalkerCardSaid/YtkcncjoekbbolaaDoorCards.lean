/-
  DERIVED. GIVEN WITH THE SEED: THE CARDS: each row of YtkcncjoekbbolaaDoorRows.lean that lists a variable, with what it lists TIED to the program's text (the seventh form; the later family's looks); each row that meets fmt, with fmt's text TOLD by the authors' own Lean function (tested against real Go, not proved from fmt's source: count such statements apart). THE CARD IS WHAT COUNTS. Prove the row's statement (the work); the ties are given (YtkcncjoekbbolaaDoorTie.lean); close each card by the builder's one call (the guide's Derived/Test/ToyasCard.lean, 'card_holds'). Laid BY PROGRAM, IN A SANDBOX (cutbox-door.mjs). By AI agents, Wed Nov 11 2026. No macro, syntax, notation, axiom, sorry.
-/
import Derived.Test.YtkcncjoekbbolaaDoorRows
import GoSem.ClaimSeven
namespace Go.Proofs.YtkcncjoekbbolaaDoor
namespace Rows

/-- THE TIED CARD OF 'laws.FnExactWalkerText'. -/
def fnExactWalkerTextCard : Claim7 := { stood := { row := fnExactWalkerTextRow, standIns := [], harness := (true, "8918f3889c8610dafa1f207238361b06fdfc2eab00cffa96dc92043a7a463b1b"), looks := true }, kinds := [], alts := [], laidByText := true, laidKinds := [.data, .data, .data], laidTests := true, laidLooks := .later }
def FnExactWalkerTextCardSaid : Prop := Claim7.holds Tryd.pinned (.plain (OpenSpec.ofChange fnExactWalkerTextSpec)) fnExactWalkerTextCard

/-- THE TIED CARD OF 'laws.FnExactParseWalker'. -/
def fnExactParseWalkerCard : Claim7 := { stood := { row := fnExactParseWalkerRow, standIns := [], harness := (true, "8918f3889c8610dafa1f207238361b06fdfc2eab00cffa96dc92043a7a463b1b"), looks := true }, kinds := [], alts := [], laidByText := true, laidKinds := [.data, .data, .data, .sentinel, .sentinel], laidTests := true, laidLooks := .later }
def FnExactParseWalkerCardSaid : Prop := Claim7.holds Tryd.pinned (.plain (OpenSpec.ofChange fnExactParseWalkerSpec)) fnExactParseWalkerCard

/-- THE SECOND FORM's CARD OF 'laws.FnExactWalkerText'. -/
def fnExactWalkerTextUptoCard : Claim7 := { stood := { row := fnExactWalkerTextUptoRow, standIns := [], harness := (true, "8918f3889c8610dafa1f207238361b06fdfc2eab00cffa96dc92043a7a463b1b"), looks := true }, kinds := [], alts := [], laidByText := true, laidKinds := [.data, .data, .data], laidTests := true, laidLooks := .later }
def FnExactWalkerTextUptoCardSaid : Prop := Claim7.holds Tryd.pinned (.plain (OpenSpec.upto fnExactWalkerTextSpec)) fnExactWalkerTextUptoCard

/-- THE SECOND FORM's CARD OF 'laws.FnExactParseWalker'. -/
def fnExactParseWalkerUptoCard : Claim7 := { stood := { row := fnExactParseWalkerUptoRow, standIns := [], harness := (true, "8918f3889c8610dafa1f207238361b06fdfc2eab00cffa96dc92043a7a463b1b"), looks := true }, kinds := [], alts := [], laidByText := true, laidKinds := [.data, .data, .data, .sentinel, .sentinel], laidTests := true, laidLooks := .later }
def FnExactParseWalkerUptoCardSaid : Prop := Claim7.holds Tryd.pinned (.plain (OpenSpec.upto fnExactParseWalkerSpec)) fnExactParseWalkerUptoCard
end Rows
end Go.Proofs.YtkcncjoekbbolaaDoor

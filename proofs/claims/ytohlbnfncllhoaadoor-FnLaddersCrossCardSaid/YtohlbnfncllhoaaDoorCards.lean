/-
  DERIVED. GIVEN WITH THE SEED: THE CARDS: each row of YtohlbnfncllhoaaDoorRows.lean that lists a variable, with what it lists TIED to the program's text (the seventh form; the later family's looks); each row that meets fmt, with fmt's text TOLD by the authors' own Lean function (tested against real Go, not proved from fmt's source: count such statements apart). THE CARD IS WHAT COUNTS. Prove the row's statement (the work); the ties are given (YtohlbnfncllhoaaDoorTie.lean); close each card by the builder's one call (the guide's Derived/Test/ToyasCard.lean, 'card_holds'). Laid BY PROGRAM, IN A SANDBOX (cutbox-door.mjs). By AI agents, Wed Nov 11 2026. No macro, syntax, notation, axiom, sorry.
-/
import Derived.Test.YtohlbnfncllhoaaDoorRows
import GoSem.ClaimSeven
namespace Go.Proofs.YtohlbnfncllhoaaDoor
namespace Rows

/-- THE TIED CARD OF 'laws.FnLaddersCross'. -/
def fnLaddersCrossCard : Claim7 := { stood := { row := fnLaddersCrossRow, standIns := [], harness := (true, "41764e1ee45819624ff0bc89414b114615ab9f9d6d9d2088556a703c09db3baa"), looks := true }, kinds := [], alts := [], laidByText := true, laidKinds := [.data, .data, .data, .sentinel, .sentinel], laidTests := true, laidLooks := .later }
def FnLaddersCrossCardSaid : Prop := Claim7.holds Tryd.pinned (.plain (OpenSpec.ofChange fnLaddersCrossSpec)) fnLaddersCrossCard

/-- THE TIED CARD OF 'laws.FnLaddersCrossOfAll'. -/
def fnLaddersCrossOfAllCard : Claim7 := { stood := { row := fnLaddersCrossOfAllRow, standIns := [], harness := (true, "41764e1ee45819624ff0bc89414b114615ab9f9d6d9d2088556a703c09db3baa"), looks := true }, kinds := [], alts := [], laidByText := true, laidKinds := [.data, .data, .data, .sentinel, .sentinel], laidTests := true, laidLooks := .later }
def FnLaddersCrossOfAllCardSaid : Prop := Claim7.holds Tryd.pinned (.plain (OpenSpec.ofChange fnLaddersCrossOfAllSpec)) fnLaddersCrossOfAllCard

/-- THE SECOND FORM's CARD OF 'laws.FnLaddersCross'. -/
def fnLaddersCrossUptoCard : Claim7 := { stood := { row := fnLaddersCrossUptoRow, standIns := [], harness := (true, "41764e1ee45819624ff0bc89414b114615ab9f9d6d9d2088556a703c09db3baa"), looks := true }, kinds := [], alts := [], laidByText := true, laidKinds := [.data, .data, .data, .sentinel, .sentinel], laidTests := true, laidLooks := .later }
def FnLaddersCrossUptoCardSaid : Prop := Claim7.holds Tryd.pinned (.plain (OpenSpec.upto fnLaddersCrossSpec)) fnLaddersCrossUptoCard

/-- THE SECOND FORM's CARD OF 'laws.FnLaddersCrossOfAll'. -/
def fnLaddersCrossOfAllUptoCard : Claim7 := { stood := { row := fnLaddersCrossOfAllUptoRow, standIns := [], harness := (true, "41764e1ee45819624ff0bc89414b114615ab9f9d6d9d2088556a703c09db3baa"), looks := true }, kinds := [], alts := [], laidByText := true, laidKinds := [.data, .data, .data, .sentinel, .sentinel], laidTests := true, laidLooks := .later }
def FnLaddersCrossOfAllUptoCardSaid : Prop := Claim7.holds Tryd.pinned (.plain (OpenSpec.upto fnLaddersCrossOfAllSpec)) fnLaddersCrossOfAllUptoCard
end Rows
end Go.Proofs.YtohlbnfncllhoaaDoor

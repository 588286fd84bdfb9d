/-
  DERIVED. GIVEN WITH THE SEED: THE CARDS: each row of YtppgcaennhghoaaDoorRows.lean that lists a variable, with what it lists TIED to the program's text (the seventh form; the later family's looks); each row that meets fmt, with fmt's text TOLD by the authors' own Lean function (tested against real Go, not proved from fmt's source: count such statements apart). THE CARD IS WHAT COUNTS. Prove the row's statement (the work); the ties are given (YtppgcaennhghoaaDoorTie.lean); close each card by the builder's one call (the guide's Derived/Test/ToyasCard.lean, 'card_holds'). Laid BY PROGRAM, IN A SANDBOX (cutbox-door.mjs). By AI agents, Wed Nov 11 2026. No macro, syntax, notation, axiom, sorry.
-/
import Derived.Test.YtppgcaennhghoaaDoorRows
import GoSem.ClaimSeven
namespace Go.Proofs.YtppgcaennhghoaaDoor
namespace Rows

/-- THE TIED CARD OF 'laws.FnExactSpotText'. -/
def fnExactSpotTextCard : Claim7 := { stood := { row := fnExactSpotTextRow, standIns := [], harness := (true, "0f32907464737ee33e8a4642dbd637ed8bbf73bb8e8ff4acdf831633ce09b10c"), looks := true }, kinds := [], alts := [], laidByText := true, laidKinds := [.data, .data, .data], laidTests := true, laidLooks := .later }
def FnExactSpotTextCardSaid : Prop := Claim7.holds Tryd.pinned (.plain (OpenSpec.ofChange fnExactSpotTextSpec)) fnExactSpotTextCard

/-- THE TIED CARD OF 'laws.FnExactParseSpot'. -/
def fnExactParseSpotCard : Claim7 := { stood := { row := fnExactParseSpotRow, standIns := [], harness := (true, "0f32907464737ee33e8a4642dbd637ed8bbf73bb8e8ff4acdf831633ce09b10c"), looks := true }, kinds := [], alts := [], laidByText := true, laidKinds := [.data, .data, .data, .sentinel, .sentinel], laidTests := true, laidLooks := .later }
def FnExactParseSpotCardSaid : Prop := Claim7.holds Tryd.pinned (.plain (OpenSpec.ofChange fnExactParseSpotSpec)) fnExactParseSpotCard

/-- THE SECOND FORM's CARD OF 'laws.FnExactSpotText'. -/
def fnExactSpotTextUptoCard : Claim7 := { stood := { row := fnExactSpotTextUptoRow, standIns := [], harness := (true, "0f32907464737ee33e8a4642dbd637ed8bbf73bb8e8ff4acdf831633ce09b10c"), looks := true }, kinds := [], alts := [], laidByText := true, laidKinds := [.data, .data, .data], laidTests := true, laidLooks := .later }
def FnExactSpotTextUptoCardSaid : Prop := Claim7.holds Tryd.pinned (.plain (OpenSpec.upto fnExactSpotTextSpec)) fnExactSpotTextUptoCard

/-- THE SECOND FORM's CARD OF 'laws.FnExactParseSpot'. -/
def fnExactParseSpotUptoCard : Claim7 := { stood := { row := fnExactParseSpotUptoRow, standIns := [], harness := (true, "0f32907464737ee33e8a4642dbd637ed8bbf73bb8e8ff4acdf831633ce09b10c"), looks := true }, kinds := [], alts := [], laidByText := true, laidKinds := [.data, .data, .data, .sentinel, .sentinel], laidTests := true, laidLooks := .later }
def FnExactParseSpotUptoCardSaid : Prop := Claim7.holds Tryd.pinned (.plain (OpenSpec.upto fnExactParseSpotSpec)) fnExactParseSpotUptoCard
end Rows
end Go.Proofs.YtppgcaennhghoaaDoor

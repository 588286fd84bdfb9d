/-
  DERIVED. GIVEN WITH THE SEED: THE CARDS: each row of YtophkahaefbkiaaDoorRows.lean that lists a variable, with what it lists TIED to the program's text (the seventh form; the later family's looks); each row that meets fmt, with fmt's text TOLD by the authors' own Lean function (tested against real Go, not proved from fmt's source: count such statements apart). THE CARD IS WHAT COUNTS. Prove the row's statement (the work); the ties are given (YtophkahaefbkiaaDoorTie.lean); close each card by the builder's one call (the guide's Derived/Test/ToyasCard.lean, 'card_holds'). Laid BY PROGRAM, IN A SANDBOX (cutbox-door.mjs). By AI agents, Wed Nov 11 2026. No macro, syntax, notation, axiom, sorry.
-/
import Derived.Test.YtophkahaefbkiaaDoorRows
import GoSem.ClaimSeven
namespace Go.Proofs.YtophkahaefbkiaaDoor
namespace Rows

/-- THE TIED CARD OF 'laws.FnExactPolesText'. -/
def fnExactPolesTextCard : Claim7 := { stood := { row := fnExactPolesTextRow, standIns := [], harness := (true, "873f6ce807a29c327e6f876d67dd079978a1163d0ae4ef3dce26af5be086b745"), looks := true }, kinds := [], alts := [], laidByText := true, laidKinds := [.data, .data, .data], laidTests := true, laidLooks := .later }
def FnExactPolesTextCardSaid : Prop := Claim7.holds Tryd.pinned (.plain (OpenSpec.ofChange fnExactPolesTextSpec)) fnExactPolesTextCard

/-- THE TIED CARD OF 'laws.FnExactParsePoles'. -/
def fnExactParsePolesCard : Claim7 := { stood := { row := fnExactParsePolesRow, standIns := [], harness := (true, "873f6ce807a29c327e6f876d67dd079978a1163d0ae4ef3dce26af5be086b745"), looks := true }, kinds := [], alts := [], laidByText := true, laidKinds := [.data, .data, .data, .data, .sentinel, .sentinel, .pinned], laidTests := true, laidLooks := .later }
def FnExactParsePolesCardSaid : Prop := Claim7.holds Tryd.pinned (.plain (OpenSpec.ofChange fnExactParsePolesSpec)) fnExactParsePolesCard

/-- THE SECOND FORM's CARD OF 'laws.FnExactPolesText'. -/
def fnExactPolesTextUptoCard : Claim7 := { stood := { row := fnExactPolesTextUptoRow, standIns := [], harness := (true, "873f6ce807a29c327e6f876d67dd079978a1163d0ae4ef3dce26af5be086b745"), looks := true }, kinds := [], alts := [], laidByText := true, laidKinds := [.data, .data, .data], laidTests := true, laidLooks := .later }
def FnExactPolesTextUptoCardSaid : Prop := Claim7.holds Tryd.pinned (.plain (OpenSpec.upto fnExactPolesTextSpec)) fnExactPolesTextUptoCard

/-- THE SECOND FORM's CARD OF 'laws.FnExactParsePoles'. -/
def fnExactParsePolesUptoCard : Claim7 := { stood := { row := fnExactParsePolesUptoRow, standIns := [], harness := (true, "873f6ce807a29c327e6f876d67dd079978a1163d0ae4ef3dce26af5be086b745"), looks := true }, kinds := [], alts := [], laidByText := true, laidKinds := [.data, .data, .data, .data, .sentinel, .sentinel, .pinned], laidTests := true, laidLooks := .later }
def FnExactParsePolesUptoCardSaid : Prop := Claim7.holds Tryd.pinned (.plain (OpenSpec.upto fnExactParsePolesSpec)) fnExactParsePolesUptoCard
end Rows
end Go.Proofs.YtophkahaefbkiaaDoor

/-
  DERIVED. GIVEN WITH THE SEED: THE CARDS: each row of YtlingdlhdkkfpaaDoorRows.lean that lists a variable, with what it lists TIED to the program's text (the seventh form; the later family's looks); each row that meets fmt, with fmt's text TOLD by the authors' own Lean function (tested against real Go, not proved from fmt's source: count such statements apart). THE CARD IS WHAT COUNTS. Prove the row's statement (the work); the ties are given (YtlingdlhdkkfpaaDoorTie.lean); close each card by the builder's one call (the guide's Derived/Test/ToyasCard.lean, 'card_holds'). Laid BY PROGRAM, IN A SANDBOX (cutbox-door.mjs). By AI agents, Wed Nov 11 2026. No macro, syntax, notation, axiom, sorry.
-/
import Derived.Test.YtlingdlhdkkfpaaDoorRows
import GoSem.ClaimSeven
namespace Go.Proofs.YtlingdlhdkkfpaaDoor
namespace Rows

/-- THE TIED CARD OF 'laws.FnExactParseLadders'. -/
def fnExactParseLaddersCard : Claim7 := { stood := { row := fnExactParseLaddersRow, standIns := [], harness := (true, "3019051d13fac2cc686227da825d6c703a404378f62c6cd82c7aadea8db04ccb"), looks := true }, kinds := [], alts := [], laidByText := true, laidKinds := [.data, .data, .data, .sentinel, .sentinel], laidTests := true, laidLooks := .later }
def FnExactParseLaddersCardSaid : Prop := Claim7.holds Tryd.pinned (.plain (OpenSpec.ofChange fnExactParseLaddersSpec)) fnExactParseLaddersCard

/-- THE TIED CARD OF 'laws.FnExactParsePoles'. -/
def fnExactParsePolesCard : Claim7 := { stood := { row := fnExactParsePolesRow, standIns := [], harness := (true, "3019051d13fac2cc686227da825d6c703a404378f62c6cd82c7aadea8db04ccb"), looks := true }, kinds := [], alts := [], laidByText := true, laidKinds := [.data, .data, .data, .data, .sentinel, .sentinel, .pinned], laidTests := true, laidLooks := .later }
def FnExactParsePolesCardSaid : Prop := Claim7.holds Tryd.pinned (.plain (OpenSpec.ofChange fnExactParsePolesSpec)) fnExactParsePolesCard

/-- THE TIED CARD OF 'laws.FnExactParseTable'. -/
def fnExactParseTableCard : Claim7 := { stood := { row := fnExactParseTableRow, standIns := [], harness := (true, "3019051d13fac2cc686227da825d6c703a404378f62c6cd82c7aadea8db04ccb"), looks := true }, kinds := [], alts := [], laidByText := true, laidKinds := [.data, .data, .data, .sentinel, .sentinel], laidTests := true, laidLooks := .later }
def FnExactParseTableCardSaid : Prop := Claim7.holds Tryd.pinned (.plain (OpenSpec.ofChange fnExactParseTableSpec)) fnExactParseTableCard

/-- THE SECOND FORM's CARD OF 'laws.FnExactParseLadders'. -/
def fnExactParseLaddersUptoCard : Claim7 := { stood := { row := fnExactParseLaddersUptoRow, standIns := [], harness := (true, "3019051d13fac2cc686227da825d6c703a404378f62c6cd82c7aadea8db04ccb"), looks := true }, kinds := [], alts := [], laidByText := true, laidKinds := [.data, .data, .data, .sentinel, .sentinel], laidTests := true, laidLooks := .later }
def FnExactParseLaddersUptoCardSaid : Prop := Claim7.holds Tryd.pinned (.plain (OpenSpec.upto fnExactParseLaddersSpec)) fnExactParseLaddersUptoCard

/-- THE SECOND FORM's CARD OF 'laws.FnExactParsePoles'. -/
def fnExactParsePolesUptoCard : Claim7 := { stood := { row := fnExactParsePolesUptoRow, standIns := [], harness := (true, "3019051d13fac2cc686227da825d6c703a404378f62c6cd82c7aadea8db04ccb"), looks := true }, kinds := [], alts := [], laidByText := true, laidKinds := [.data, .data, .data, .data, .sentinel, .sentinel, .pinned], laidTests := true, laidLooks := .later }
def FnExactParsePolesUptoCardSaid : Prop := Claim7.holds Tryd.pinned (.plain (OpenSpec.upto fnExactParsePolesSpec)) fnExactParsePolesUptoCard

/-- THE SECOND FORM's CARD OF 'laws.FnExactParseTable'. -/
def fnExactParseTableUptoCard : Claim7 := { stood := { row := fnExactParseTableUptoRow, standIns := [], harness := (true, "3019051d13fac2cc686227da825d6c703a404378f62c6cd82c7aadea8db04ccb"), looks := true }, kinds := [], alts := [], laidByText := true, laidKinds := [.data, .data, .data, .sentinel, .sentinel], laidTests := true, laidLooks := .later }
def FnExactParseTableUptoCardSaid : Prop := Claim7.holds Tryd.pinned (.plain (OpenSpec.upto fnExactParseTableSpec)) fnExactParseTableUptoCard
end Rows
end Go.Proofs.YtlingdlhdkkfpaaDoor

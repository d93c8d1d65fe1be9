/-
  DERIVED. GIVEN WITH THE SEED: THE CARDS: each row of YthihjelcakenpaaDoorRows.lean that lists a variable, with what it lists TIED to the program's text (the seventh form; the later family's looks); each row that meets fmt, with fmt's text TOLD by the authors' own Lean function (tested against real Go, not proved from fmt's source: count such statements apart). THE CARD IS WHAT COUNTS. Prove the row's statement (the work); the ties are given (YthihjelcakenpaaDoorTie.lean); close each card by the builder's one call (the guide's Derived/Test/ToyasCard.lean, 'card_holds'). Laid BY PROGRAM, IN A SANDBOX (cutbox-door.mjs). By AI agents, Wed Nov 11 2026. No macro, syntax, notation, axiom, sorry.
-/
import Derived.Test.YthihjelcakenpaaDoorRows
import GoSem.ClaimSeven
namespace Go.Proofs.YthihjelcakenpaaDoor
namespace Rows

/-- THE TIED CARD OF 'laws.FnFilter'. -/
def fnFilterCard : Claim7 := { stood := { row := fnFilterRow, standIns := [], harness := (true, "06559f8d73da548c422847e0222399b18444932d3f247d41a6331050444ad047"), looks := true }, kinds := [], alts := [], laidByText := true, laidKinds := [.data], laidTests := true, laidLooks := .later }
def FnFilterCardSaid : Prop := Claim7.holds Tryd.pinned (.plain (OpenSpec.ofChange fnFilterSpec)) fnFilterCard

/-- THE TIED CARD OF 'laws.FnExactFilterTokens'. -/
def fnExactFilterTokensCard : Claim7 := { stood := { row := fnExactFilterTokensRow, standIns := [], harness := (true, "06559f8d73da548c422847e0222399b18444932d3f247d41a6331050444ad047"), looks := true }, kinds := [], alts := [], laidByText := true, laidKinds := [.data], laidTests := true, laidLooks := .later }
def FnExactFilterTokensCardSaid : Prop := Claim7.holds Tryd.pinned (.plain (OpenSpec.ofChange fnExactFilterTokensSpec)) fnExactFilterTokensCard

/-- THE TIED CARD OF 'laws.FnExactReadFilter'. -/
def fnExactReadFilterCard : Claim7 := { stood := { row := fnExactReadFilterRow, standIns := [], harness := (true, "06559f8d73da548c422847e0222399b18444932d3f247d41a6331050444ad047"), looks := true }, kinds := [], alts := [], laidByText := true, laidKinds := [.data], laidTests := true, laidLooks := .later }
def FnExactReadFilterCardSaid : Prop := Claim7.holds Tryd.pinned (.plain (OpenSpec.ofChange fnExactReadFilterSpec)) fnExactReadFilterCard

/-- THE SECOND FORM's CARD OF 'laws.FnFilter'. -/
def fnFilterUptoCard : Claim7 := { stood := { row := fnFilterUptoRow, standIns := [], harness := (true, "06559f8d73da548c422847e0222399b18444932d3f247d41a6331050444ad047"), looks := true }, kinds := [], alts := [], laidByText := true, laidKinds := [.data], laidTests := true, laidLooks := .later }
def FnFilterUptoCardSaid : Prop := Claim7.holds Tryd.pinned (.plain (OpenSpec.upto fnFilterSpec)) fnFilterUptoCard

/-- THE SECOND FORM's CARD OF 'laws.FnExactFilterTokens'. -/
def fnExactFilterTokensUptoCard : Claim7 := { stood := { row := fnExactFilterTokensUptoRow, standIns := [], harness := (true, "06559f8d73da548c422847e0222399b18444932d3f247d41a6331050444ad047"), looks := true }, kinds := [], alts := [], laidByText := true, laidKinds := [.data], laidTests := true, laidLooks := .later }
def FnExactFilterTokensUptoCardSaid : Prop := Claim7.holds Tryd.pinned (.plain (OpenSpec.upto fnExactFilterTokensSpec)) fnExactFilterTokensUptoCard

/-- THE SECOND FORM's CARD OF 'laws.FnExactReadFilter'. -/
def fnExactReadFilterUptoCard : Claim7 := { stood := { row := fnExactReadFilterUptoRow, standIns := [], harness := (true, "06559f8d73da548c422847e0222399b18444932d3f247d41a6331050444ad047"), looks := true }, kinds := [], alts := [], laidByText := true, laidKinds := [.data], laidTests := true, laidLooks := .later }
def FnExactReadFilterUptoCardSaid : Prop := Claim7.holds Tryd.pinned (.plain (OpenSpec.upto fnExactReadFilterSpec)) fnExactReadFilterUptoCard
end Rows
end Go.Proofs.YthihjelcakenpaaDoor

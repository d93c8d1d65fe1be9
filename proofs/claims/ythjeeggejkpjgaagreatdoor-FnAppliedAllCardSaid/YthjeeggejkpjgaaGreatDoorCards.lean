/-
  DERIVED. GIVEN WITH THE SEED: THE CARDS: each row of YthjeeggejkpjgaaGreatDoorRows.lean that lists a variable, with what it lists TIED to the program's text (the seventh form; the later family's looks); each row that meets fmt, with fmt's text TOLD by the authors' own Lean function (tested against real Go, not proved from fmt's source: count such statements apart). THE CARD IS WHAT COUNTS. Prove the row's statement (the work); the ties are given (YthjeeggejkpjgaaGreatDoorTie.lean); close each card by the builder's one call (the guide's Derived/Test/ToyasCard.lean, 'card_holds'). Laid BY PROGRAM, IN A SANDBOX (cutbox-door.mjs). By AI agents, Wed Nov 11 2026. No macro, syntax, notation, axiom, sorry.
-/
import Derived.Test.YthjeeggejkpjgaaGreatDoorRows
import GoSem.ClaimSeven
namespace Go.Proofs.YthjeeggejkpjgaaGreatDoor
namespace Rows

/-- THE TIED CARD OF 'laws.FnExactApplies'. -/
def fnExactAppliesCard : Claim7 := { stood := { row := fnExactAppliesRow, standIns := [], harness := (true, "d02ee8b882dee66d787b0bb98b02319da68cbdb8f55ea7ba8b2cadfa1c27fd10"), looks := true }, kinds := [], alts := [], laidByText := true, laidKinds := [.sentinel], laidTests := true, laidLooks := .later }
def FnExactAppliesCardSaid : Prop := Claim7.holds Tryz.pinned (.plain (OpenSpec.ofChange fnExactAppliesSpec)) fnExactAppliesCard

/-- THE TIED CARD OF 'laws.FnExactApplied'. -/
def fnExactAppliedCard : Claim7 := { stood := { row := fnExactAppliedRow, standIns := [], harness := (true, "d02ee8b882dee66d787b0bb98b02319da68cbdb8f55ea7ba8b2cadfa1c27fd10"), looks := true }, kinds := [], alts := [], laidByText := true, laidKinds := [.sentinel], laidTests := true, laidLooks := .later }
def FnExactAppliedCardSaid : Prop := Claim7.holds Tryz.pinned (.plain (OpenSpec.ofChange fnExactAppliedSpec)) fnExactAppliedCard

/-- THE TIED CARD OF 'laws.FnExactAppliedAll'. -/
def fnExactAppliedAllCard : Claim7 := { stood := { row := fnExactAppliedAllRow, standIns := [], harness := (true, "d02ee8b882dee66d787b0bb98b02319da68cbdb8f55ea7ba8b2cadfa1c27fd10"), looks := true }, kinds := [], alts := [], laidByText := true, laidKinds := [.sentinel], laidTests := true, laidLooks := .later }
def FnExactAppliedAllCardSaid : Prop := Claim7.holds Tryz.pinned (.plain (OpenSpec.ofChange fnExactAppliedAllSpec)) fnExactAppliedAllCard

/-- THE TIED CARD OF 'laws.FnApplied'. -/
def fnAppliedCard : Claim7 := { stood := { row := fnAppliedRow, standIns := [], harness := (true, "d02ee8b882dee66d787b0bb98b02319da68cbdb8f55ea7ba8b2cadfa1c27fd10"), looks := true }, kinds := [], alts := [], laidByText := true, laidKinds := [.sentinel], laidTests := true, laidLooks := .later }
def FnAppliedCardSaid : Prop := Claim7.holds Tryz.pinned (.plain (OpenSpec.ofChange fnAppliedSpec)) fnAppliedCard

/-- THE TIED CARD OF 'laws.FnApart'. -/
def fnApartCard : Claim7 := { stood := { row := fnApartRow, standIns := [], harness := (true, "d02ee8b882dee66d787b0bb98b02319da68cbdb8f55ea7ba8b2cadfa1c27fd10"), looks := true }, kinds := [], alts := [], laidByText := true, laidKinds := [.sentinel], laidTests := true, laidLooks := .later }
def FnApartCardSaid : Prop := Claim7.holds Tryz.pinned (.plain (OpenSpec.ofChange fnApartSpec)) fnApartCard

/-- THE TIED CARD OF 'laws.FnAppliedAll'. -/
def fnAppliedAllCard : Claim7 := { stood := { row := fnAppliedAllRow, standIns := [], harness := (true, "d02ee8b882dee66d787b0bb98b02319da68cbdb8f55ea7ba8b2cadfa1c27fd10"), looks := true }, kinds := [], alts := [], laidByText := true, laidKinds := [.sentinel], laidTests := true, laidLooks := .later }
def FnAppliedAllCardSaid : Prop := Claim7.holds Tryz.pinned (.plain (OpenSpec.ofChange fnAppliedAllSpec)) fnAppliedAllCard

/-- THE SECOND FORM's CARD OF 'laws.FnExactApplies'. -/
def fnExactAppliesUptoCard : Claim7 := { stood := { row := fnExactAppliesUptoRow, standIns := [], harness := (true, "d02ee8b882dee66d787b0bb98b02319da68cbdb8f55ea7ba8b2cadfa1c27fd10"), looks := true }, kinds := [], alts := [], laidByText := true, laidKinds := [.sentinel], laidTests := true, laidLooks := .later }
def FnExactAppliesUptoCardSaid : Prop := Claim7.holds Tryz.pinned (.plain (OpenSpec.upto fnExactAppliesSpec)) fnExactAppliesUptoCard

/-- THE SECOND FORM's CARD OF 'laws.FnExactApplied'. -/
def fnExactAppliedUptoCard : Claim7 := { stood := { row := fnExactAppliedUptoRow, standIns := [], harness := (true, "d02ee8b882dee66d787b0bb98b02319da68cbdb8f55ea7ba8b2cadfa1c27fd10"), looks := true }, kinds := [], alts := [], laidByText := true, laidKinds := [.sentinel], laidTests := true, laidLooks := .later }
def FnExactAppliedUptoCardSaid : Prop := Claim7.holds Tryz.pinned (.plain (OpenSpec.upto fnExactAppliedSpec)) fnExactAppliedUptoCard

/-- THE SECOND FORM's CARD OF 'laws.FnExactAppliedAll'. -/
def fnExactAppliedAllUptoCard : Claim7 := { stood := { row := fnExactAppliedAllUptoRow, standIns := [], harness := (true, "d02ee8b882dee66d787b0bb98b02319da68cbdb8f55ea7ba8b2cadfa1c27fd10"), looks := true }, kinds := [], alts := [], laidByText := true, laidKinds := [.sentinel], laidTests := true, laidLooks := .later }
def FnExactAppliedAllUptoCardSaid : Prop := Claim7.holds Tryz.pinned (.plain (OpenSpec.upto fnExactAppliedAllSpec)) fnExactAppliedAllUptoCard

/-- THE SECOND FORM's CARD OF 'laws.FnApplied'. -/
def fnAppliedUptoCard : Claim7 := { stood := { row := fnAppliedUptoRow, standIns := [], harness := (true, "d02ee8b882dee66d787b0bb98b02319da68cbdb8f55ea7ba8b2cadfa1c27fd10"), looks := true }, kinds := [], alts := [], laidByText := true, laidKinds := [.sentinel], laidTests := true, laidLooks := .later }
def FnAppliedUptoCardSaid : Prop := Claim7.holds Tryz.pinned (.plain (OpenSpec.upto fnAppliedSpec)) fnAppliedUptoCard

/-- THE SECOND FORM's CARD OF 'laws.FnApart'. -/
def fnApartUptoCard : Claim7 := { stood := { row := fnApartUptoRow, standIns := [], harness := (true, "d02ee8b882dee66d787b0bb98b02319da68cbdb8f55ea7ba8b2cadfa1c27fd10"), looks := true }, kinds := [], alts := [], laidByText := true, laidKinds := [.sentinel], laidTests := true, laidLooks := .later }
def FnApartUptoCardSaid : Prop := Claim7.holds Tryz.pinned (.plain (OpenSpec.upto fnApartSpec)) fnApartUptoCard

/-- THE SECOND FORM's CARD OF 'laws.FnAppliedAll'. -/
def fnAppliedAllUptoCard : Claim7 := { stood := { row := fnAppliedAllUptoRow, standIns := [], harness := (true, "d02ee8b882dee66d787b0bb98b02319da68cbdb8f55ea7ba8b2cadfa1c27fd10"), looks := true }, kinds := [], alts := [], laidByText := true, laidKinds := [.sentinel], laidTests := true, laidLooks := .later }
def FnAppliedAllUptoCardSaid : Prop := Claim7.holds Tryz.pinned (.plain (OpenSpec.upto fnAppliedAllSpec)) fnAppliedAllUptoCard
end Rows
end Go.Proofs.YthjeeggejkpjgaaGreatDoor

/-
  DERIVED. GIVEN WITH THE SEED: THE CARDS: each row of YtbfgdbpfecffcaaGreatDoorRows.lean that lists a variable, with what it lists TIED to the program's text (the seventh form; the later family's looks); each row that meets fmt, with fmt's text TOLD by the authors' own Lean function (tested against real Go, not proved from fmt's source: count such statements apart). THE CARD IS WHAT COUNTS. Prove the row's statement (the work); the ties are given (YtbfgdbpfecffcaaGreatDoorTie.lean); close each card by the builder's one call (the guide's Derived/Test/ToyasCard.lean, 'card_holds'). Laid BY PROGRAM, IN A SANDBOX (cutbox-door.mjs). By AI agents, Wed Nov 11 2026. No macro, syntax, notation, axiom, sorry.
-/
import Derived.Test.YtbfgdbpfecffcaaGreatDoorRows
import GoSem.ClaimSeven
namespace Go.Proofs.YtbfgdbpfecffcaaGreatDoor
namespace Rows

/-- THE TIED CARD OF 'laws.FnApplied'. -/
def fnAppliedCard : Claim7 := { stood := { row := fnAppliedRow, standIns := [], harness := (true, "49d5ab00da9c35889ea9f7c05432acade581c3d26330f52e4775111113e7c0de"), looks := true }, kinds := [], alts := [], laidByText := true, laidKinds := [.sentinel], laidTests := true, laidLooks := .later }
def FnAppliedCardSaid : Prop := Claim7.holds Tryz.pinned (.plain (OpenSpec.ofChange fnAppliedSpec)) fnAppliedCard

/-- THE TIED CARD OF 'laws.FnApart'. -/
def fnApartCard : Claim7 := { stood := { row := fnApartRow, standIns := [], harness := (true, "49d5ab00da9c35889ea9f7c05432acade581c3d26330f52e4775111113e7c0de"), looks := true }, kinds := [], alts := [], laidByText := true, laidKinds := [.sentinel], laidTests := true, laidLooks := .later }
def FnApartCardSaid : Prop := Claim7.holds Tryz.pinned (.plain (OpenSpec.ofChange fnApartSpec)) fnApartCard

/-- THE TIED CARD OF 'laws.FnAppliedAll'. -/
def fnAppliedAllCard : Claim7 := { stood := { row := fnAppliedAllRow, standIns := [], harness := (true, "49d5ab00da9c35889ea9f7c05432acade581c3d26330f52e4775111113e7c0de"), looks := true }, kinds := [], alts := [], laidByText := true, laidKinds := [.sentinel], laidTests := true, laidLooks := .later }
def FnAppliedAllCardSaid : Prop := Claim7.holds Tryz.pinned (.plain (OpenSpec.ofChange fnAppliedAllSpec)) fnAppliedAllCard

/-- THE TIED CARD OF 'laws.FnStore'. -/
def fnStoreCard : Claim7 := { stood := { row := fnStoreRow, standIns := [], harness := (true, "49d5ab00da9c35889ea9f7c05432acade581c3d26330f52e4775111113e7c0de"), looks := true }, kinds := [], alts := [], laidByText := true, laidKinds := [.sentinel], laidTests := true, laidLooks := .later }
def FnStoreCardSaid : Prop := Claim7.holds Tryz.pinned (.plain (OpenSpec.ofChange fnStoreSpec)) fnStoreCard

/-- THE TIED CARD OF 'laws.FnCommitted'. -/
def fnCommittedCard : Claim7 := { stood := { row := fnCommittedRow, standIns := [], harness := (true, "49d5ab00da9c35889ea9f7c05432acade581c3d26330f52e4775111113e7c0de"), looks := true }, kinds := [], alts := [], laidByText := true, laidKinds := [.sentinel], laidTests := true, laidLooks := .later }
def FnCommittedCardSaid : Prop := Claim7.holds Tryz.pinned (.plain (OpenSpec.ofChange fnCommittedSpec)) fnCommittedCard

/-- THE TIED CARD OF 'laws.FnExactApplies'. -/
def fnExactAppliesCard : Claim7 := { stood := { row := fnExactAppliesRow, standIns := [], harness := (true, "49d5ab00da9c35889ea9f7c05432acade581c3d26330f52e4775111113e7c0de"), looks := true }, kinds := [], alts := [], laidByText := true, laidKinds := [.sentinel], laidTests := true, laidLooks := .later }
def FnExactAppliesCardSaid : Prop := Claim7.holds Tryz.pinned (.plain (OpenSpec.ofChange fnExactAppliesSpec)) fnExactAppliesCard

/-- THE TIED CARD OF 'laws.FnExactApplied'. -/
def fnExactAppliedCard : Claim7 := { stood := { row := fnExactAppliedRow, standIns := [], harness := (true, "49d5ab00da9c35889ea9f7c05432acade581c3d26330f52e4775111113e7c0de"), looks := true }, kinds := [], alts := [], laidByText := true, laidKinds := [.sentinel], laidTests := true, laidLooks := .later }
def FnExactAppliedCardSaid : Prop := Claim7.holds Tryz.pinned (.plain (OpenSpec.ofChange fnExactAppliedSpec)) fnExactAppliedCard

/-- THE TIED CARD OF 'laws.FnExactAppliedAll'. -/
def fnExactAppliedAllCard : Claim7 := { stood := { row := fnExactAppliedAllRow, standIns := [], harness := (true, "49d5ab00da9c35889ea9f7c05432acade581c3d26330f52e4775111113e7c0de"), looks := true }, kinds := [], alts := [], laidByText := true, laidKinds := [.sentinel], laidTests := true, laidLooks := .later }
def FnExactAppliedAllCardSaid : Prop := Claim7.holds Tryz.pinned (.plain (OpenSpec.ofChange fnExactAppliedAllSpec)) fnExactAppliedAllCard

/-- THE TIED CARD OF 'laws.FnExactStoreNew'. -/
def fnExactStoreNewCard : Claim7 := { stood := { row := fnExactStoreNewRow, standIns := [], harness := (true, "49d5ab00da9c35889ea9f7c05432acade581c3d26330f52e4775111113e7c0de"), looks := true }, kinds := [], alts := [], laidByText := true, laidKinds := [.sentinel], laidTests := true, laidLooks := .later }
def FnExactStoreNewCardSaid : Prop := Claim7.holds Tryz.pinned (.plain (OpenSpec.ofChange fnExactStoreNewSpec)) fnExactStoreNewCard

/-- THE TIED CARD OF 'laws.FnExactStoreOk'. -/
def fnExactStoreOkCard : Claim7 := { stood := { row := fnExactStoreOkRow, standIns := [], harness := (true, "49d5ab00da9c35889ea9f7c05432acade581c3d26330f52e4775111113e7c0de"), looks := true }, kinds := [], alts := [], laidByText := true, laidKinds := [.sentinel], laidTests := true, laidLooks := .later }
def FnExactStoreOkCardSaid : Prop := Claim7.holds Tryz.pinned (.plain (OpenSpec.ofChange fnExactStoreOkSpec)) fnExactStoreOkCard

/-- THE TIED CARD OF 'laws.FnExactBoxesAt'. -/
def fnExactBoxesAtCard : Claim7 := { stood := { row := fnExactBoxesAtRow, standIns := [], harness := (true, "49d5ab00da9c35889ea9f7c05432acade581c3d26330f52e4775111113e7c0de"), looks := true }, kinds := [], alts := [], laidByText := true, laidKinds := [.sentinel], laidTests := true, laidLooks := .later }
def FnExactBoxesAtCardSaid : Prop := Claim7.holds Tryz.pinned (.plain (OpenSpec.ofChange fnExactBoxesAtSpec)) fnExactBoxesAtCard

/-- THE TIED CARD OF 'laws.FnExactBoxAt'. -/
def fnExactBoxAtCard : Claim7 := { stood := { row := fnExactBoxAtRow, standIns := [], harness := (true, "49d5ab00da9c35889ea9f7c05432acade581c3d26330f52e4775111113e7c0de"), looks := true }, kinds := [], alts := [], laidByText := true, laidKinds := [.sentinel], laidTests := true, laidLooks := .later }
def FnExactBoxAtCardSaid : Prop := Claim7.holds Tryz.pinned (.plain (OpenSpec.ofChange fnExactBoxAtSpec)) fnExactBoxAtCard

/-- THE TIED CARD OF 'laws.FnExactCommitted'. -/
def fnExactCommittedCard : Claim7 := { stood := { row := fnExactCommittedRow, standIns := [], harness := (true, "49d5ab00da9c35889ea9f7c05432acade581c3d26330f52e4775111113e7c0de"), looks := true }, kinds := [], alts := [], laidByText := true, laidKinds := [.sentinel], laidTests := true, laidLooks := .later }
def FnExactCommittedCardSaid : Prop := Claim7.holds Tryz.pinned (.plain (OpenSpec.ofChange fnExactCommittedSpec)) fnExactCommittedCard

/-- THE SECOND FORM's CARD OF 'laws.FnApplied'. -/
def fnAppliedUptoCard : Claim7 := { stood := { row := fnAppliedUptoRow, standIns := [], harness := (true, "49d5ab00da9c35889ea9f7c05432acade581c3d26330f52e4775111113e7c0de"), looks := true }, kinds := [], alts := [], laidByText := true, laidKinds := [.sentinel], laidTests := true, laidLooks := .later }
def FnAppliedUptoCardSaid : Prop := Claim7.holds Tryz.pinned (.plain (OpenSpec.upto fnAppliedSpec)) fnAppliedUptoCard

/-- THE SECOND FORM's CARD OF 'laws.FnApart'. -/
def fnApartUptoCard : Claim7 := { stood := { row := fnApartUptoRow, standIns := [], harness := (true, "49d5ab00da9c35889ea9f7c05432acade581c3d26330f52e4775111113e7c0de"), looks := true }, kinds := [], alts := [], laidByText := true, laidKinds := [.sentinel], laidTests := true, laidLooks := .later }
def FnApartUptoCardSaid : Prop := Claim7.holds Tryz.pinned (.plain (OpenSpec.upto fnApartSpec)) fnApartUptoCard

/-- THE SECOND FORM's CARD OF 'laws.FnAppliedAll'. -/
def fnAppliedAllUptoCard : Claim7 := { stood := { row := fnAppliedAllUptoRow, standIns := [], harness := (true, "49d5ab00da9c35889ea9f7c05432acade581c3d26330f52e4775111113e7c0de"), looks := true }, kinds := [], alts := [], laidByText := true, laidKinds := [.sentinel], laidTests := true, laidLooks := .later }
def FnAppliedAllUptoCardSaid : Prop := Claim7.holds Tryz.pinned (.plain (OpenSpec.upto fnAppliedAllSpec)) fnAppliedAllUptoCard

/-- THE SECOND FORM's CARD OF 'laws.FnStore'. -/
def fnStoreUptoCard : Claim7 := { stood := { row := fnStoreUptoRow, standIns := [], harness := (true, "49d5ab00da9c35889ea9f7c05432acade581c3d26330f52e4775111113e7c0de"), looks := true }, kinds := [], alts := [], laidByText := true, laidKinds := [.sentinel], laidTests := true, laidLooks := .later }
def FnStoreUptoCardSaid : Prop := Claim7.holds Tryz.pinned (.plain (OpenSpec.upto fnStoreSpec)) fnStoreUptoCard

/-- THE SECOND FORM's CARD OF 'laws.FnCommitted'. -/
def fnCommittedUptoCard : Claim7 := { stood := { row := fnCommittedUptoRow, standIns := [], harness := (true, "49d5ab00da9c35889ea9f7c05432acade581c3d26330f52e4775111113e7c0de"), looks := true }, kinds := [], alts := [], laidByText := true, laidKinds := [.sentinel], laidTests := true, laidLooks := .later }
def FnCommittedUptoCardSaid : Prop := Claim7.holds Tryz.pinned (.plain (OpenSpec.upto fnCommittedSpec)) fnCommittedUptoCard

/-- THE SECOND FORM's CARD OF 'laws.FnExactApplies'. -/
def fnExactAppliesUptoCard : Claim7 := { stood := { row := fnExactAppliesUptoRow, standIns := [], harness := (true, "49d5ab00da9c35889ea9f7c05432acade581c3d26330f52e4775111113e7c0de"), looks := true }, kinds := [], alts := [], laidByText := true, laidKinds := [.sentinel], laidTests := true, laidLooks := .later }
def FnExactAppliesUptoCardSaid : Prop := Claim7.holds Tryz.pinned (.plain (OpenSpec.upto fnExactAppliesSpec)) fnExactAppliesUptoCard

/-- THE SECOND FORM's CARD OF 'laws.FnExactApplied'. -/
def fnExactAppliedUptoCard : Claim7 := { stood := { row := fnExactAppliedUptoRow, standIns := [], harness := (true, "49d5ab00da9c35889ea9f7c05432acade581c3d26330f52e4775111113e7c0de"), looks := true }, kinds := [], alts := [], laidByText := true, laidKinds := [.sentinel], laidTests := true, laidLooks := .later }
def FnExactAppliedUptoCardSaid : Prop := Claim7.holds Tryz.pinned (.plain (OpenSpec.upto fnExactAppliedSpec)) fnExactAppliedUptoCard

/-- THE SECOND FORM's CARD OF 'laws.FnExactAppliedAll'. -/
def fnExactAppliedAllUptoCard : Claim7 := { stood := { row := fnExactAppliedAllUptoRow, standIns := [], harness := (true, "49d5ab00da9c35889ea9f7c05432acade581c3d26330f52e4775111113e7c0de"), looks := true }, kinds := [], alts := [], laidByText := true, laidKinds := [.sentinel], laidTests := true, laidLooks := .later }
def FnExactAppliedAllUptoCardSaid : Prop := Claim7.holds Tryz.pinned (.plain (OpenSpec.upto fnExactAppliedAllSpec)) fnExactAppliedAllUptoCard

/-- THE SECOND FORM's CARD OF 'laws.FnExactStoreNew'. -/
def fnExactStoreNewUptoCard : Claim7 := { stood := { row := fnExactStoreNewUptoRow, standIns := [], harness := (true, "49d5ab00da9c35889ea9f7c05432acade581c3d26330f52e4775111113e7c0de"), looks := true }, kinds := [], alts := [], laidByText := true, laidKinds := [.sentinel], laidTests := true, laidLooks := .later }
def FnExactStoreNewUptoCardSaid : Prop := Claim7.holds Tryz.pinned (.plain (OpenSpec.upto fnExactStoreNewSpec)) fnExactStoreNewUptoCard

/-- THE SECOND FORM's CARD OF 'laws.FnExactStoreOk'. -/
def fnExactStoreOkUptoCard : Claim7 := { stood := { row := fnExactStoreOkUptoRow, standIns := [], harness := (true, "49d5ab00da9c35889ea9f7c05432acade581c3d26330f52e4775111113e7c0de"), looks := true }, kinds := [], alts := [], laidByText := true, laidKinds := [.sentinel], laidTests := true, laidLooks := .later }
def FnExactStoreOkUptoCardSaid : Prop := Claim7.holds Tryz.pinned (.plain (OpenSpec.upto fnExactStoreOkSpec)) fnExactStoreOkUptoCard

/-- THE SECOND FORM's CARD OF 'laws.FnExactBoxesAt'. -/
def fnExactBoxesAtUptoCard : Claim7 := { stood := { row := fnExactBoxesAtUptoRow, standIns := [], harness := (true, "49d5ab00da9c35889ea9f7c05432acade581c3d26330f52e4775111113e7c0de"), looks := true }, kinds := [], alts := [], laidByText := true, laidKinds := [.sentinel], laidTests := true, laidLooks := .later }
def FnExactBoxesAtUptoCardSaid : Prop := Claim7.holds Tryz.pinned (.plain (OpenSpec.upto fnExactBoxesAtSpec)) fnExactBoxesAtUptoCard

/-- THE SECOND FORM's CARD OF 'laws.FnExactBoxAt'. -/
def fnExactBoxAtUptoCard : Claim7 := { stood := { row := fnExactBoxAtUptoRow, standIns := [], harness := (true, "49d5ab00da9c35889ea9f7c05432acade581c3d26330f52e4775111113e7c0de"), looks := true }, kinds := [], alts := [], laidByText := true, laidKinds := [.sentinel], laidTests := true, laidLooks := .later }
def FnExactBoxAtUptoCardSaid : Prop := Claim7.holds Tryz.pinned (.plain (OpenSpec.upto fnExactBoxAtSpec)) fnExactBoxAtUptoCard

/-- THE SECOND FORM's CARD OF 'laws.FnExactCommitted'. -/
def fnExactCommittedUptoCard : Claim7 := { stood := { row := fnExactCommittedUptoRow, standIns := [], harness := (true, "49d5ab00da9c35889ea9f7c05432acade581c3d26330f52e4775111113e7c0de"), looks := true }, kinds := [], alts := [], laidByText := true, laidKinds := [.sentinel], laidTests := true, laidLooks := .later }
def FnExactCommittedUptoCardSaid : Prop := Claim7.holds Tryz.pinned (.plain (OpenSpec.upto fnExactCommittedSpec)) fnExactCommittedUptoCard
end Rows
end Go.Proofs.YtbfgdbpfecffcaaGreatDoor

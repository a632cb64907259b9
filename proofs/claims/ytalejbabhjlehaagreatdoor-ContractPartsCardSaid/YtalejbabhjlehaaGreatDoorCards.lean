/-
  DERIVED. GIVEN WITH THE SEED: THE CARDS: each row of YtalejbabhjlehaaGreatDoorRows.lean that lists a variable, with what it lists TIED to the program's text (the seventh form; the later family's looks); each row that meets fmt, with fmt's text TOLD by the authors' own Lean function (tested against real Go, not proved from fmt's source: count such statements apart). THE CARD IS WHAT COUNTS. Prove the row's statement (the work); the ties are given (YtalejbabhjlehaaGreatDoorTie.lean); close each card by the builder's one call (the guide's Derived/Test/ToyasCard.lean, 'card_holds'). Laid BY PROGRAM, IN A SANDBOX (cutbox-door.mjs). By AI agents, Wed Nov 11 2026. No macro, syntax, notation, axiom, sorry.
-/
import Derived.Test.YtalejbabhjlehaaGreatDoorRows
import GoSem.ClaimSeven
namespace Go.Proofs.YtalejbabhjlehaaGreatDoor
namespace Rows

/-- THE TIED CARD OF 'novationlaw09.ContractNames'. -/
def contractNamesCard : Claim7 := { stood := { row := contractNamesRow, standIns := [], harness := (true, "71ddf80c7366689a492e82e72f0e466bc59b718f85b5bde2724224757c3fd51a"), looks := false }, kinds := [], alts := [], laidByText := true, laidKinds := [.data, .data, .data], laidTests := true, laidLooks := .later }
def ContractNamesCardSaid : Prop := Claim7.holds Tryz.pinned (.plain (OpenSpec.ofChange contractNamesSpec)) contractNamesCard

/-- THE TIED CARD OF 'novationlaw09.ContractChecks'. -/
def contractChecksCard : Claim7 := { stood := { row := contractChecksRow, standIns := [], harness := (true, "71ddf80c7366689a492e82e72f0e466bc59b718f85b5bde2724224757c3fd51a"), looks := false }, kinds := [], alts := [], laidByText := true, laidKinds := [.data, .data, .data], laidTests := true, laidLooks := .later }
def ContractChecksCardSaid : Prop := Claim7.holds Tryz.pinned (.plain (OpenSpec.ofChange contractChecksSpec)) contractChecksCard

/-- THE TIED CARD OF 'novationlaw09.ContractLists'. -/
def contractListsCard : Claim7 := { stood := { row := contractListsRow, standIns := [], harness := (true, "71ddf80c7366689a492e82e72f0e466bc59b718f85b5bde2724224757c3fd51a"), looks := false }, kinds := [], alts := [], laidByText := true, laidKinds := [.data, .data, .data], laidTests := true, laidLooks := .later }
def ContractListsCardSaid : Prop := Claim7.holds Tryz.pinned (.plain (OpenSpec.ofChange contractListsSpec)) contractListsCard

/-- THE TIED CARD OF 'novationlaw09.ContractBuilds'. -/
def contractBuildsCard : Claim7 := { stood := { row := contractBuildsRow, standIns := [], harness := (true, "71ddf80c7366689a492e82e72f0e466bc59b718f85b5bde2724224757c3fd51a"), looks := false }, kinds := [], alts := [], laidByText := true, laidKinds := [.data, .data, .data], laidTests := true, laidLooks := .later }
def ContractBuildsCardSaid : Prop := Claim7.holds Tryz.pinned (.plain (OpenSpec.ofChange contractBuildsSpec)) contractBuildsCard

/-- THE TIED CARD OF 'novationlaw09.ContractParts'. -/
def contractPartsCard : Claim7 := { stood := { row := contractPartsRow, standIns := [], harness := (true, "71ddf80c7366689a492e82e72f0e466bc59b718f85b5bde2724224757c3fd51a"), looks := false }, kinds := [], alts := [], laidByText := true, laidKinds := [.data, .data, .data], laidTests := true, laidLooks := .later }
def ContractPartsCardSaid : Prop := Claim7.holds Tryz.pinned (.plain (OpenSpec.ofChange contractPartsSpec)) contractPartsCard

/-- THE TIED CARD OF 'novationlaw09.ContractSame'. -/
def contractSameCard : Claim7 := { stood := { row := contractSameRow, standIns := [], harness := (true, "71ddf80c7366689a492e82e72f0e466bc59b718f85b5bde2724224757c3fd51a"), looks := false }, kinds := [], alts := [], laidByText := true, laidKinds := [.data, .data, .data], laidTests := true, laidLooks := .later }
def ContractSameCardSaid : Prop := Claim7.holds Tryz.pinned (.plain (OpenSpec.ofChange contractSameSpec)) contractSameCard

/-- THE TIED CARD OF 'novationlaw09.ContractOrder'. -/
def contractOrderCard : Claim7 := { stood := { row := contractOrderRow, standIns := [], harness := (true, "71ddf80c7366689a492e82e72f0e466bc59b718f85b5bde2724224757c3fd51a"), looks := false }, kinds := [], alts := [], laidByText := true, laidKinds := [.data, .data, .data], laidTests := true, laidLooks := .later }
def ContractOrderCardSaid : Prop := Claim7.holds Tryz.pinned (.plain (OpenSpec.ofChange contractOrderSpec)) contractOrderCard

/-- THE SECOND FORM's CARD OF 'novationlaw09.ContractNames'. -/
def contractNamesUptoCard : Claim7 := { stood := { row := contractNamesUptoRow, standIns := [], harness := (true, "71ddf80c7366689a492e82e72f0e466bc59b718f85b5bde2724224757c3fd51a"), looks := false }, kinds := [], alts := [], laidByText := true, laidKinds := [.data, .data, .data], laidTests := true, laidLooks := .later }
def ContractNamesUptoCardSaid : Prop := Claim7.holds Tryz.pinned (.plain (OpenSpec.upto contractNamesSpec)) contractNamesUptoCard

/-- THE SECOND FORM's CARD OF 'novationlaw09.ContractChecks'. -/
def contractChecksUptoCard : Claim7 := { stood := { row := contractChecksUptoRow, standIns := [], harness := (true, "71ddf80c7366689a492e82e72f0e466bc59b718f85b5bde2724224757c3fd51a"), looks := false }, kinds := [], alts := [], laidByText := true, laidKinds := [.data, .data, .data], laidTests := true, laidLooks := .later }
def ContractChecksUptoCardSaid : Prop := Claim7.holds Tryz.pinned (.plain (OpenSpec.upto contractChecksSpec)) contractChecksUptoCard

/-- THE SECOND FORM's CARD OF 'novationlaw09.ContractLists'. -/
def contractListsUptoCard : Claim7 := { stood := { row := contractListsUptoRow, standIns := [], harness := (true, "71ddf80c7366689a492e82e72f0e466bc59b718f85b5bde2724224757c3fd51a"), looks := false }, kinds := [], alts := [], laidByText := true, laidKinds := [.data, .data, .data], laidTests := true, laidLooks := .later }
def ContractListsUptoCardSaid : Prop := Claim7.holds Tryz.pinned (.plain (OpenSpec.upto contractListsSpec)) contractListsUptoCard

/-- THE SECOND FORM's CARD OF 'novationlaw09.ContractBuilds'. -/
def contractBuildsUptoCard : Claim7 := { stood := { row := contractBuildsUptoRow, standIns := [], harness := (true, "71ddf80c7366689a492e82e72f0e466bc59b718f85b5bde2724224757c3fd51a"), looks := false }, kinds := [], alts := [], laidByText := true, laidKinds := [.data, .data, .data], laidTests := true, laidLooks := .later }
def ContractBuildsUptoCardSaid : Prop := Claim7.holds Tryz.pinned (.plain (OpenSpec.upto contractBuildsSpec)) contractBuildsUptoCard

/-- THE SECOND FORM's CARD OF 'novationlaw09.ContractParts'. -/
def contractPartsUptoCard : Claim7 := { stood := { row := contractPartsUptoRow, standIns := [], harness := (true, "71ddf80c7366689a492e82e72f0e466bc59b718f85b5bde2724224757c3fd51a"), looks := false }, kinds := [], alts := [], laidByText := true, laidKinds := [.data, .data, .data], laidTests := true, laidLooks := .later }
def ContractPartsUptoCardSaid : Prop := Claim7.holds Tryz.pinned (.plain (OpenSpec.upto contractPartsSpec)) contractPartsUptoCard

/-- THE SECOND FORM's CARD OF 'novationlaw09.ContractSame'. -/
def contractSameUptoCard : Claim7 := { stood := { row := contractSameUptoRow, standIns := [], harness := (true, "71ddf80c7366689a492e82e72f0e466bc59b718f85b5bde2724224757c3fd51a"), looks := false }, kinds := [], alts := [], laidByText := true, laidKinds := [.data, .data, .data], laidTests := true, laidLooks := .later }
def ContractSameUptoCardSaid : Prop := Claim7.holds Tryz.pinned (.plain (OpenSpec.upto contractSameSpec)) contractSameUptoCard

/-- THE SECOND FORM's CARD OF 'novationlaw09.ContractOrder'. -/
def contractOrderUptoCard : Claim7 := { stood := { row := contractOrderUptoRow, standIns := [], harness := (true, "71ddf80c7366689a492e82e72f0e466bc59b718f85b5bde2724224757c3fd51a"), looks := false }, kinds := [], alts := [], laidByText := true, laidKinds := [.data, .data, .data], laidTests := true, laidLooks := .later }
def ContractOrderUptoCardSaid : Prop := Claim7.holds Tryz.pinned (.plain (OpenSpec.upto contractOrderSpec)) contractOrderUptoCard
end Rows
end Go.Proofs.YtalejbabhjlehaaGreatDoor

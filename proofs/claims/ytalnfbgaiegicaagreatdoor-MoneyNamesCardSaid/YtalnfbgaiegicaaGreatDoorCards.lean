/-
  DERIVED. GIVEN WITH THE SEED: THE CARDS: each row of YtalnfbgaiegicaaGreatDoorRows.lean that lists a variable, with what it lists TIED to the program's text (the seventh form; the later family's looks); each row that meets fmt, with fmt's text TOLD by the authors' own Lean function (tested against real Go, not proved from fmt's source: count such statements apart). THE CARD IS WHAT COUNTS. Prove the row's statement (the work); the ties are given (YtalnfbgaiegicaaGreatDoorTie.lean); close each card by the builder's one call (the guide's Derived/Test/ToyasCard.lean, 'card_holds'). Laid BY PROGRAM, IN A SANDBOX (cutbox-door.mjs). By AI agents, Wed Nov 11 2026. No macro, syntax, notation, axiom, sorry.
-/
import Derived.Test.YtalnfbgaiegicaaGreatDoorRows
import GoSem.ClaimSeven
namespace Go.Proofs.YtalnfbgaiegicaaGreatDoor
namespace Rows

/-- THE TIED CARD OF 'novationlaw07.MoneyNames'. -/
def moneyNamesCard : Claim7 := { stood := { row := moneyNamesRow, standIns := [], harness := (true, "1ed0798a060a7e29e8b66f6df1ece0aea5452b4c889cd79fbb5753694dc8e912"), looks := true }, kinds := [], alts := [], laidByText := true, laidKinds := [.data, .data, .data, .data, .sentinel, .sentinel, .pinned], laidTests := true, laidLooks := .later }
def MoneyNamesCardSaid : Prop := Claim7.holds Tryz.pinned (.plain (OpenSpec.ofChange moneyNamesSpec)) moneyNamesCard

/-- THE TIED CARD OF 'novationlaw07.MoneyUnits'. -/
def moneyUnitsCard : Claim7 := { stood := { row := moneyUnitsRow, standIns := [], harness := (true, "1ed0798a060a7e29e8b66f6df1ece0aea5452b4c889cd79fbb5753694dc8e912"), looks := true }, kinds := [], alts := [], laidByText := true, laidKinds := [.data, .data, .data, .sentinel, .sentinel], laidTests := true, laidLooks := .later }
def MoneyUnitsCardSaid : Prop := Claim7.holds Tryz.pinned (.plain (OpenSpec.ofChange moneyUnitsSpec)) moneyUnitsCard

/-- THE TIED CARD OF 'novationlaw07.MoneyTexts'. -/
def moneyTextsCard : Claim7 := { stood := { row := moneyTextsRow, standIns := [], harness := (true, "1ed0798a060a7e29e8b66f6df1ece0aea5452b4c889cd79fbb5753694dc8e912"), looks := true }, kinds := [], alts := [], laidByText := true, laidKinds := [.data, .data, .data, .data, .sentinel, .sentinel, .pinned], laidTests := true, laidLooks := .later }
def MoneyTextsCardSaid : Prop := Claim7.holds Tryz.pinned (.plain (OpenSpec.ofChange moneyTextsSpec)) moneyTextsCard

/-- THE TIED CARD OF 'novationlaw07.MoneyShares'. -/
def moneySharesCard : Claim7 := { stood := { row := moneySharesRow, standIns := [], harness := (true, "1ed0798a060a7e29e8b66f6df1ece0aea5452b4c889cd79fbb5753694dc8e912"), looks := true }, kinds := [], alts := [], laidByText := true, laidKinds := [.data, .data, .data, .data, .sentinel, .sentinel, .pinned], laidTests := true, laidLooks := .later }
def MoneySharesCardSaid : Prop := Claim7.holds Tryz.pinned (.plain (OpenSpec.ofChange moneySharesSpec)) moneySharesCard

/-- THE TIED CARD OF 'novationlaw07.MoneyBack'. -/
def moneyBackCard : Claim7 := { stood := { row := moneyBackRow, standIns := [], harness := (true, "1ed0798a060a7e29e8b66f6df1ece0aea5452b4c889cd79fbb5753694dc8e912"), looks := true }, kinds := [], alts := [], laidByText := true, laidKinds := [.data, .data, .data, .data, .sentinel, .sentinel, .pinned], laidTests := true, laidLooks := .later }
def MoneyBackCardSaid : Prop := Claim7.holds Tryz.pinned (.plain (OpenSpec.ofChange moneyBackSpec)) moneyBackCard

/-- THE TIED CARD OF 'novationlaw07.MoneyRounds'. -/
def moneyRoundsCard : Claim7 := { stood := { row := moneyRoundsRow, standIns := [], harness := (true, "1ed0798a060a7e29e8b66f6df1ece0aea5452b4c889cd79fbb5753694dc8e912"), looks := true }, kinds := [], alts := [], laidByText := true, laidKinds := [.data, .data, .data, .data, .sentinel, .sentinel, .pinned], laidTests := true, laidLooks := .later }
def MoneyRoundsCardSaid : Prop := Claim7.holds Tryz.pinned (.plain (OpenSpec.ofChange moneyRoundsSpec)) moneyRoundsCard

/-- THE TIED CARD OF 'novationlaw07.MoneyWords'. -/
def moneyWordsCard : Claim7 := { stood := { row := moneyWordsRow, standIns := [], harness := (true, "1ed0798a060a7e29e8b66f6df1ece0aea5452b4c889cd79fbb5753694dc8e912"), looks := true }, kinds := [], alts := [], laidByText := true, laidKinds := [.data, .data, .data, .data, .sentinel, .sentinel, .pinned], laidTests := true, laidLooks := .later }
def MoneyWordsCardSaid : Prop := Claim7.holds Tryz.pinned (.plain (OpenSpec.ofChange moneyWordsSpec)) moneyWordsCard

/-- THE SECOND FORM's CARD OF 'novationlaw07.MoneyNames'. -/
def moneyNamesUptoCard : Claim7 := { stood := { row := moneyNamesUptoRow, standIns := [], harness := (true, "1ed0798a060a7e29e8b66f6df1ece0aea5452b4c889cd79fbb5753694dc8e912"), looks := true }, kinds := [], alts := [], laidByText := true, laidKinds := [.data, .data, .data, .data, .sentinel, .sentinel, .pinned], laidTests := true, laidLooks := .later }
def MoneyNamesUptoCardSaid : Prop := Claim7.holds Tryz.pinned (.plain (OpenSpec.upto moneyNamesSpec)) moneyNamesUptoCard

/-- THE SECOND FORM's CARD OF 'novationlaw07.MoneyUnits'. -/
def moneyUnitsUptoCard : Claim7 := { stood := { row := moneyUnitsUptoRow, standIns := [], harness := (true, "1ed0798a060a7e29e8b66f6df1ece0aea5452b4c889cd79fbb5753694dc8e912"), looks := true }, kinds := [], alts := [], laidByText := true, laidKinds := [.data, .data, .data, .sentinel, .sentinel], laidTests := true, laidLooks := .later }
def MoneyUnitsUptoCardSaid : Prop := Claim7.holds Tryz.pinned (.plain (OpenSpec.upto moneyUnitsSpec)) moneyUnitsUptoCard

/-- THE SECOND FORM's CARD OF 'novationlaw07.MoneyTexts'. -/
def moneyTextsUptoCard : Claim7 := { stood := { row := moneyTextsUptoRow, standIns := [], harness := (true, "1ed0798a060a7e29e8b66f6df1ece0aea5452b4c889cd79fbb5753694dc8e912"), looks := true }, kinds := [], alts := [], laidByText := true, laidKinds := [.data, .data, .data, .data, .sentinel, .sentinel, .pinned], laidTests := true, laidLooks := .later }
def MoneyTextsUptoCardSaid : Prop := Claim7.holds Tryz.pinned (.plain (OpenSpec.upto moneyTextsSpec)) moneyTextsUptoCard

/-- THE SECOND FORM's CARD OF 'novationlaw07.MoneyShares'. -/
def moneySharesUptoCard : Claim7 := { stood := { row := moneySharesUptoRow, standIns := [], harness := (true, "1ed0798a060a7e29e8b66f6df1ece0aea5452b4c889cd79fbb5753694dc8e912"), looks := true }, kinds := [], alts := [], laidByText := true, laidKinds := [.data, .data, .data, .data, .sentinel, .sentinel, .pinned], laidTests := true, laidLooks := .later }
def MoneySharesUptoCardSaid : Prop := Claim7.holds Tryz.pinned (.plain (OpenSpec.upto moneySharesSpec)) moneySharesUptoCard

/-- THE SECOND FORM's CARD OF 'novationlaw07.MoneyBack'. -/
def moneyBackUptoCard : Claim7 := { stood := { row := moneyBackUptoRow, standIns := [], harness := (true, "1ed0798a060a7e29e8b66f6df1ece0aea5452b4c889cd79fbb5753694dc8e912"), looks := true }, kinds := [], alts := [], laidByText := true, laidKinds := [.data, .data, .data, .data, .sentinel, .sentinel, .pinned], laidTests := true, laidLooks := .later }
def MoneyBackUptoCardSaid : Prop := Claim7.holds Tryz.pinned (.plain (OpenSpec.upto moneyBackSpec)) moneyBackUptoCard

/-- THE SECOND FORM's CARD OF 'novationlaw07.MoneyRounds'. -/
def moneyRoundsUptoCard : Claim7 := { stood := { row := moneyRoundsUptoRow, standIns := [], harness := (true, "1ed0798a060a7e29e8b66f6df1ece0aea5452b4c889cd79fbb5753694dc8e912"), looks := true }, kinds := [], alts := [], laidByText := true, laidKinds := [.data, .data, .data, .data, .sentinel, .sentinel, .pinned], laidTests := true, laidLooks := .later }
def MoneyRoundsUptoCardSaid : Prop := Claim7.holds Tryz.pinned (.plain (OpenSpec.upto moneyRoundsSpec)) moneyRoundsUptoCard

/-- THE SECOND FORM's CARD OF 'novationlaw07.MoneyWords'. -/
def moneyWordsUptoCard : Claim7 := { stood := { row := moneyWordsUptoRow, standIns := [], harness := (true, "1ed0798a060a7e29e8b66f6df1ece0aea5452b4c889cd79fbb5753694dc8e912"), looks := true }, kinds := [], alts := [], laidByText := true, laidKinds := [.data, .data, .data, .data, .sentinel, .sentinel, .pinned], laidTests := true, laidLooks := .later }
def MoneyWordsUptoCardSaid : Prop := Claim7.holds Tryz.pinned (.plain (OpenSpec.upto moneyWordsSpec)) moneyWordsUptoCard
end Rows
end Go.Proofs.YtalnfbgaiegicaaGreatDoor

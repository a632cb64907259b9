/-
  DERIVED. GIVEN WITH THE SEED: THE CARDS: each row of YtgjhgkglfflmjaaGreatDoorRows.lean that lists a variable, with what it lists TIED to the program's text (the seventh form; the later family's looks); each row that meets fmt, with fmt's text TOLD by the authors' own Lean function (tested against real Go, not proved from fmt's source: count such statements apart). THE CARD IS WHAT COUNTS. Prove the row's statement (the work); the ties are given (YtgjhgkglfflmjaaGreatDoorTie.lean); close each card by the builder's one call (the guide's Derived/Test/ToyasCard.lean, 'card_holds'). Laid BY PROGRAM, IN A SANDBOX (cutbox-door.mjs). By AI agents, Wed Nov 11 2026. No macro, syntax, notation, axiom, sorry.
-/
import Derived.Test.YtgjhgkglfflmjaaGreatDoorRows
import GoSem.ClaimSeven
namespace Go.Proofs.YtgjhgkglfflmjaaGreatDoor
namespace Rows

/-- THE TIED CARD OF 'novationlaw02.RationalNames'. -/
def rationalNamesCard : Claim7 := { stood := { row := rationalNamesRow, standIns := [], harness := (true, "4ae189c39c7452af4e0b51f1abfbc908ec56ae0ce9bd7c44894bf9d2e6bc2c68"), looks := false }, kinds := [], alts := [], laidByText := true, laidKinds := [.data, .data, .data], laidTests := true, laidLooks := .later }
def RationalNamesCardSaid : Prop := Claim7.holds Tryz.pinned (.plain (OpenSpec.ofChange rationalNamesSpec)) rationalNamesCard

/-- THE TIED CARD OF 'novationlaw02.RationalTells'. -/
def rationalTellsCard : Claim7 := { stood := { row := rationalTellsRow, standIns := [], harness := (true, "4ae189c39c7452af4e0b51f1abfbc908ec56ae0ce9bd7c44894bf9d2e6bc2c68"), looks := false }, kinds := [], alts := [], laidByText := true, laidKinds := [.data, .data, .data], laidTests := true, laidLooks := .later }
def RationalTellsCardSaid : Prop := Claim7.holds Tryz.pinned (.plain (OpenSpec.ofChange rationalTellsSpec)) rationalTellsCard

/-- THE TIED CARD OF 'novationlaw02.RationalFolds'. -/
def rationalFoldsCard : Claim7 := { stood := { row := rationalFoldsRow, standIns := [], harness := (true, "4ae189c39c7452af4e0b51f1abfbc908ec56ae0ce9bd7c44894bf9d2e6bc2c68"), looks := false }, kinds := [], alts := [], laidByText := true, laidKinds := [.data, .data, .data], laidTests := true, laidLooks := .later }
def RationalFoldsCardSaid : Prop := Claim7.holds Tryz.pinned (.plain (OpenSpec.ofChange rationalFoldsSpec)) rationalFoldsCard

/-- THE TIED CARD OF 'novationlaw02.RationalRounds'. -/
def rationalRoundsCard : Claim7 := { stood := { row := rationalRoundsRow, standIns := [], harness := (true, "4ae189c39c7452af4e0b51f1abfbc908ec56ae0ce9bd7c44894bf9d2e6bc2c68"), looks := false }, kinds := [], alts := [], laidByText := true, laidKinds := [.data, .data, .data], laidTests := true, laidLooks := .later }
def RationalRoundsCardSaid : Prop := Claim7.holds Tryz.pinned (.plain (OpenSpec.ofChange rationalRoundsSpec)) rationalRoundsCard

/-- THE TIED CARD OF 'novationlaw02.RationalField'. -/
def rationalFieldCard : Claim7 := { stood := { row := rationalFieldRow, standIns := [], harness := (true, "4ae189c39c7452af4e0b51f1abfbc908ec56ae0ce9bd7c44894bf9d2e6bc2c68"), looks := false }, kinds := [], alts := [], laidByText := true, laidKinds := [.data, .data, .data], laidTests := true, laidLooks := .later }
def RationalFieldCardSaid : Prop := Claim7.holds Tryz.pinned (.plain (OpenSpec.ofChange rationalFieldSpec)) rationalFieldCard

/-- THE TIED CARD OF 'novationlaw02.RationalOrdered'. -/
def rationalOrderedCard : Claim7 := { stood := { row := rationalOrderedRow, standIns := [], harness := (true, "4ae189c39c7452af4e0b51f1abfbc908ec56ae0ce9bd7c44894bf9d2e6bc2c68"), looks := false }, kinds := [], alts := [], laidByText := true, laidKinds := [.data, .data, .data], laidTests := true, laidLooks := .later }
def RationalOrderedCardSaid : Prop := Claim7.holds Tryz.pinned (.plain (OpenSpec.ofChange rationalOrderedSpec)) rationalOrderedCard

/-- THE TIED CARD OF 'novationlaw02.RationalNear'. -/
def rationalNearCard : Claim7 := { stood := { row := rationalNearRow, standIns := [], harness := (true, "4ae189c39c7452af4e0b51f1abfbc908ec56ae0ce9bd7c44894bf9d2e6bc2c68"), looks := false }, kinds := [], alts := [], laidByText := true, laidKinds := [.data, .data, .data], laidTests := true, laidLooks := .later }
def RationalNearCardSaid : Prop := Claim7.holds Tryz.pinned (.plain (OpenSpec.ofChange rationalNearSpec)) rationalNearCard

/-- THE TIED CARD OF 'novationlaw02.RationalPowers'. -/
def rationalPowersCard : Claim7 := { stood := { row := rationalPowersRow, standIns := [], harness := (true, "4ae189c39c7452af4e0b51f1abfbc908ec56ae0ce9bd7c44894bf9d2e6bc2c68"), looks := false }, kinds := [], alts := [], laidByText := true, laidKinds := [.data, .data, .data], laidTests := true, laidLooks := .later }
def RationalPowersCardSaid : Prop := Claim7.holds Tryz.pinned (.plain (OpenSpec.ofChange rationalPowersSpec)) rationalPowersCard

/-- THE SECOND FORM's CARD OF 'novationlaw02.RationalNames'. -/
def rationalNamesUptoCard : Claim7 := { stood := { row := rationalNamesUptoRow, standIns := [], harness := (true, "4ae189c39c7452af4e0b51f1abfbc908ec56ae0ce9bd7c44894bf9d2e6bc2c68"), looks := false }, kinds := [], alts := [], laidByText := true, laidKinds := [.data, .data, .data], laidTests := true, laidLooks := .later }
def RationalNamesUptoCardSaid : Prop := Claim7.holds Tryz.pinned (.plain (OpenSpec.upto rationalNamesSpec)) rationalNamesUptoCard

/-- THE SECOND FORM's CARD OF 'novationlaw02.RationalTells'. -/
def rationalTellsUptoCard : Claim7 := { stood := { row := rationalTellsUptoRow, standIns := [], harness := (true, "4ae189c39c7452af4e0b51f1abfbc908ec56ae0ce9bd7c44894bf9d2e6bc2c68"), looks := false }, kinds := [], alts := [], laidByText := true, laidKinds := [.data, .data, .data], laidTests := true, laidLooks := .later }
def RationalTellsUptoCardSaid : Prop := Claim7.holds Tryz.pinned (.plain (OpenSpec.upto rationalTellsSpec)) rationalTellsUptoCard

/-- THE SECOND FORM's CARD OF 'novationlaw02.RationalFolds'. -/
def rationalFoldsUptoCard : Claim7 := { stood := { row := rationalFoldsUptoRow, standIns := [], harness := (true, "4ae189c39c7452af4e0b51f1abfbc908ec56ae0ce9bd7c44894bf9d2e6bc2c68"), looks := false }, kinds := [], alts := [], laidByText := true, laidKinds := [.data, .data, .data], laidTests := true, laidLooks := .later }
def RationalFoldsUptoCardSaid : Prop := Claim7.holds Tryz.pinned (.plain (OpenSpec.upto rationalFoldsSpec)) rationalFoldsUptoCard

/-- THE SECOND FORM's CARD OF 'novationlaw02.RationalRounds'. -/
def rationalRoundsUptoCard : Claim7 := { stood := { row := rationalRoundsUptoRow, standIns := [], harness := (true, "4ae189c39c7452af4e0b51f1abfbc908ec56ae0ce9bd7c44894bf9d2e6bc2c68"), looks := false }, kinds := [], alts := [], laidByText := true, laidKinds := [.data, .data, .data], laidTests := true, laidLooks := .later }
def RationalRoundsUptoCardSaid : Prop := Claim7.holds Tryz.pinned (.plain (OpenSpec.upto rationalRoundsSpec)) rationalRoundsUptoCard

/-- THE SECOND FORM's CARD OF 'novationlaw02.RationalField'. -/
def rationalFieldUptoCard : Claim7 := { stood := { row := rationalFieldUptoRow, standIns := [], harness := (true, "4ae189c39c7452af4e0b51f1abfbc908ec56ae0ce9bd7c44894bf9d2e6bc2c68"), looks := false }, kinds := [], alts := [], laidByText := true, laidKinds := [.data, .data, .data], laidTests := true, laidLooks := .later }
def RationalFieldUptoCardSaid : Prop := Claim7.holds Tryz.pinned (.plain (OpenSpec.upto rationalFieldSpec)) rationalFieldUptoCard

/-- THE SECOND FORM's CARD OF 'novationlaw02.RationalOrdered'. -/
def rationalOrderedUptoCard : Claim7 := { stood := { row := rationalOrderedUptoRow, standIns := [], harness := (true, "4ae189c39c7452af4e0b51f1abfbc908ec56ae0ce9bd7c44894bf9d2e6bc2c68"), looks := false }, kinds := [], alts := [], laidByText := true, laidKinds := [.data, .data, .data], laidTests := true, laidLooks := .later }
def RationalOrderedUptoCardSaid : Prop := Claim7.holds Tryz.pinned (.plain (OpenSpec.upto rationalOrderedSpec)) rationalOrderedUptoCard

/-- THE SECOND FORM's CARD OF 'novationlaw02.RationalNear'. -/
def rationalNearUptoCard : Claim7 := { stood := { row := rationalNearUptoRow, standIns := [], harness := (true, "4ae189c39c7452af4e0b51f1abfbc908ec56ae0ce9bd7c44894bf9d2e6bc2c68"), looks := false }, kinds := [], alts := [], laidByText := true, laidKinds := [.data, .data, .data], laidTests := true, laidLooks := .later }
def RationalNearUptoCardSaid : Prop := Claim7.holds Tryz.pinned (.plain (OpenSpec.upto rationalNearSpec)) rationalNearUptoCard

/-- THE SECOND FORM's CARD OF 'novationlaw02.RationalPowers'. -/
def rationalPowersUptoCard : Claim7 := { stood := { row := rationalPowersUptoRow, standIns := [], harness := (true, "4ae189c39c7452af4e0b51f1abfbc908ec56ae0ce9bd7c44894bf9d2e6bc2c68"), looks := false }, kinds := [], alts := [], laidByText := true, laidKinds := [.data, .data, .data], laidTests := true, laidLooks := .later }
def RationalPowersUptoCardSaid : Prop := Claim7.holds Tryz.pinned (.plain (OpenSpec.upto rationalPowersSpec)) rationalPowersUptoCard
end Rows
end Go.Proofs.YtgjhgkglfflmjaaGreatDoor

/-
  DERIVED. GIVEN WITH THE SEED: THE CARDS: each row of YtbfimfjhdbpenaaGreatDoorRows.lean that lists a variable, with what it lists TIED to the program's text (the seventh form; the later family's looks); each row that meets fmt, with fmt's text TOLD by the authors' own Lean function (tested against real Go, not proved from fmt's source: count such statements apart). THE CARD IS WHAT COUNTS. Prove the row's statement (the work); the ties are given (YtbfimfjhdbpenaaGreatDoorTie.lean); close each card by the builder's one call (the guide's Derived/Test/ToyasCard.lean, 'card_holds'). Laid BY PROGRAM, IN A SANDBOX (cutbox-door.mjs). By AI agents, Wed Nov 11 2026. No macro, syntax, notation, axiom, sorry.
-/
import Derived.Test.YtbfimfjhdbpenaaGreatDoorRows
import GoSem.ClaimSeven
namespace Go.Proofs.YtbfimfjhdbpenaaGreatDoor
namespace Rows

/-- THE TIED CARD OF 'novationlaw08.ObservableNames'. -/
def observableNamesCard : Claim7 := { stood := { row := observableNamesRow, standIns := [], harness := (true, "f8a76c1af9932168ec17d20f57847da9df1818e00406a290160a67ed8bfb6619"), looks := false }, kinds := [], alts := [], laidByText := true, laidKinds := [.data, .data, .data], laidTests := true, laidLooks := .later }
def ObservableNamesCardSaid : Prop := Claim7.holds Tryz.pinned (.plain (OpenSpec.ofChange observableNamesSpec)) observableNamesCard

/-- THE TIED CARD OF 'novationlaw08.ObservableEnvs'. -/
def observableEnvsCard : Claim7 := { stood := { row := observableEnvsRow, standIns := [], harness := (true, "f8a76c1af9932168ec17d20f57847da9df1818e00406a290160a67ed8bfb6619"), looks := false }, kinds := [], alts := [], laidByText := true, laidKinds := [.data, .data, .data], laidTests := true, laidLooks := .later }
def ObservableEnvsCardSaid : Prop := Claim7.holds Tryz.pinned (.plain (OpenSpec.ofChange observableEnvsSpec)) observableEnvsCard

/-- THE TIED CARD OF 'novationlaw08.ObservableValues'. -/
def observableValuesCard : Claim7 := { stood := { row := observableValuesRow, standIns := [], harness := (true, "f8a76c1af9932168ec17d20f57847da9df1818e00406a290160a67ed8bfb6619"), looks := false }, kinds := [], alts := [], laidByText := true, laidKinds := [.data, .data, .data], laidTests := true, laidLooks := .later }
def ObservableValuesCardSaid : Prop := Claim7.holds Tryz.pinned (.plain (OpenSpec.ofChange observableValuesSpec)) observableValuesCard

/-- THE TIED CARD OF 'novationlaw08.ObservableParts'. -/
def observablePartsCard : Claim7 := { stood := { row := observablePartsRow, standIns := [], harness := (true, "f8a76c1af9932168ec17d20f57847da9df1818e00406a290160a67ed8bfb6619"), looks := false }, kinds := [], alts := [], laidByText := true, laidKinds := [.data, .data, .data], laidTests := true, laidLooks := .later }
def ObservablePartsCardSaid : Prop := Claim7.holds Tryz.pinned (.plain (OpenSpec.ofChange observablePartsSpec)) observablePartsCard

/-- THE TIED CARD OF 'novationlaw08.ObservableLogic'. -/
def observableLogicCard : Claim7 := { stood := { row := observableLogicRow, standIns := [], harness := (true, "f8a76c1af9932168ec17d20f57847da9df1818e00406a290160a67ed8bfb6619"), looks := false }, kinds := [], alts := [], laidByText := true, laidKinds := [.data, .data, .data], laidTests := true, laidLooks := .later }
def ObservableLogicCardSaid : Prop := Claim7.holds Tryz.pinned (.plain (OpenSpec.ofChange observableLogicSpec)) observableLogicCard

/-- THE TIED CARD OF 'novationlaw08.ObservableLocal'. -/
def observableLocalCard : Claim7 := { stood := { row := observableLocalRow, standIns := [], harness := (true, "f8a76c1af9932168ec17d20f57847da9df1818e00406a290160a67ed8bfb6619"), looks := false }, kinds := [], alts := [], laidByText := true, laidKinds := [.data, .data, .data], laidTests := true, laidLooks := .later }
def ObservableLocalCardSaid : Prop := Claim7.holds Tryz.pinned (.plain (OpenSpec.ofChange observableLocalSpec)) observableLocalCard

/-- THE TIED CARD OF 'novationlaw08.ObservablePuts'. -/
def observablePutsCard : Claim7 := { stood := { row := observablePutsRow, standIns := [], harness := (true, "f8a76c1af9932168ec17d20f57847da9df1818e00406a290160a67ed8bfb6619"), looks := false }, kinds := [], alts := [], laidByText := true, laidKinds := [.data, .data, .data], laidTests := true, laidLooks := .later }
def ObservablePutsCardSaid : Prop := Claim7.holds Tryz.pinned (.plain (OpenSpec.ofChange observablePutsSpec)) observablePutsCard

/-- THE SECOND FORM's CARD OF 'novationlaw08.ObservableNames'. -/
def observableNamesUptoCard : Claim7 := { stood := { row := observableNamesUptoRow, standIns := [], harness := (true, "f8a76c1af9932168ec17d20f57847da9df1818e00406a290160a67ed8bfb6619"), looks := false }, kinds := [], alts := [], laidByText := true, laidKinds := [.data, .data, .data], laidTests := true, laidLooks := .later }
def ObservableNamesUptoCardSaid : Prop := Claim7.holds Tryz.pinned (.plain (OpenSpec.upto observableNamesSpec)) observableNamesUptoCard

/-- THE SECOND FORM's CARD OF 'novationlaw08.ObservableEnvs'. -/
def observableEnvsUptoCard : Claim7 := { stood := { row := observableEnvsUptoRow, standIns := [], harness := (true, "f8a76c1af9932168ec17d20f57847da9df1818e00406a290160a67ed8bfb6619"), looks := false }, kinds := [], alts := [], laidByText := true, laidKinds := [.data, .data, .data], laidTests := true, laidLooks := .later }
def ObservableEnvsUptoCardSaid : Prop := Claim7.holds Tryz.pinned (.plain (OpenSpec.upto observableEnvsSpec)) observableEnvsUptoCard

/-- THE SECOND FORM's CARD OF 'novationlaw08.ObservableValues'. -/
def observableValuesUptoCard : Claim7 := { stood := { row := observableValuesUptoRow, standIns := [], harness := (true, "f8a76c1af9932168ec17d20f57847da9df1818e00406a290160a67ed8bfb6619"), looks := false }, kinds := [], alts := [], laidByText := true, laidKinds := [.data, .data, .data], laidTests := true, laidLooks := .later }
def ObservableValuesUptoCardSaid : Prop := Claim7.holds Tryz.pinned (.plain (OpenSpec.upto observableValuesSpec)) observableValuesUptoCard

/-- THE SECOND FORM's CARD OF 'novationlaw08.ObservableParts'. -/
def observablePartsUptoCard : Claim7 := { stood := { row := observablePartsUptoRow, standIns := [], harness := (true, "f8a76c1af9932168ec17d20f57847da9df1818e00406a290160a67ed8bfb6619"), looks := false }, kinds := [], alts := [], laidByText := true, laidKinds := [.data, .data, .data], laidTests := true, laidLooks := .later }
def ObservablePartsUptoCardSaid : Prop := Claim7.holds Tryz.pinned (.plain (OpenSpec.upto observablePartsSpec)) observablePartsUptoCard

/-- THE SECOND FORM's CARD OF 'novationlaw08.ObservableLogic'. -/
def observableLogicUptoCard : Claim7 := { stood := { row := observableLogicUptoRow, standIns := [], harness := (true, "f8a76c1af9932168ec17d20f57847da9df1818e00406a290160a67ed8bfb6619"), looks := false }, kinds := [], alts := [], laidByText := true, laidKinds := [.data, .data, .data], laidTests := true, laidLooks := .later }
def ObservableLogicUptoCardSaid : Prop := Claim7.holds Tryz.pinned (.plain (OpenSpec.upto observableLogicSpec)) observableLogicUptoCard

/-- THE SECOND FORM's CARD OF 'novationlaw08.ObservableLocal'. -/
def observableLocalUptoCard : Claim7 := { stood := { row := observableLocalUptoRow, standIns := [], harness := (true, "f8a76c1af9932168ec17d20f57847da9df1818e00406a290160a67ed8bfb6619"), looks := false }, kinds := [], alts := [], laidByText := true, laidKinds := [.data, .data, .data], laidTests := true, laidLooks := .later }
def ObservableLocalUptoCardSaid : Prop := Claim7.holds Tryz.pinned (.plain (OpenSpec.upto observableLocalSpec)) observableLocalUptoCard

/-- THE SECOND FORM's CARD OF 'novationlaw08.ObservablePuts'. -/
def observablePutsUptoCard : Claim7 := { stood := { row := observablePutsUptoRow, standIns := [], harness := (true, "f8a76c1af9932168ec17d20f57847da9df1818e00406a290160a67ed8bfb6619"), looks := false }, kinds := [], alts := [], laidByText := true, laidKinds := [.data, .data, .data], laidTests := true, laidLooks := .later }
def ObservablePutsUptoCardSaid : Prop := Claim7.holds Tryz.pinned (.plain (OpenSpec.upto observablePutsSpec)) observablePutsUptoCard
end Rows
end Go.Proofs.YtbfimfjhdbpenaaGreatDoor

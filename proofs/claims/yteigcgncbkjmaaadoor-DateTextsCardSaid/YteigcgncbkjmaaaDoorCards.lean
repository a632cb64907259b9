/-
  DERIVED. GIVEN WITH THE SEED: THE CARDS: each row of YteigcgncbkjmaaaDoorRows.lean that lists a variable, with what it lists TIED to the program's text (the seventh form; the later family's looks); each row that meets fmt, with fmt's text TOLD by the authors' own Lean function (tested against real Go, not proved from fmt's source: count such statements apart). THE CARD IS WHAT COUNTS. Prove the row's statement (the work); the ties are given (YteigcgncbkjmaaaDoorTie.lean); close each card by the builder's one call (the guide's Derived/Test/ToyasCard.lean, 'card_holds'). Laid BY PROGRAM, IN A SANDBOX (cutbox-door.mjs). By AI agents, Wed Nov 11 2026. No macro, syntax, notation, axiom, sorry.
-/
import Derived.Test.YteigcgncbkjmaaaDoorRows
import GoSem.ClaimSeven
namespace Go.Proofs.YteigcgncbkjmaaaDoor
namespace Rows

/-- THE TIED CARD OF 'novationlaw03.DateNames'. -/
def dateNamesCard : Claim7 := { stood := { row := dateNamesRow, standIns := [], harness := (true, "c84a1fa9b477bebc67ae719abe759d8bb763d542dc3ed1ad076a46f951cf2605"), looks := false }, kinds := [], alts := [], laidByText := true, laidKinds := [.data, .data, .data, .data], laidTests := true, laidLooks := .later }
def DateNamesCardSaid : Prop := Claim7.holds Tryd.pinned (.plain (OpenSpec.ofChange dateNamesSpec)) dateNamesCard

/-- THE TIED CARD OF 'novationlaw03.DateTells'. -/
def dateTellsCard : Claim7 := { stood := { row := dateTellsRow, standIns := [], harness := (true, "c84a1fa9b477bebc67ae719abe759d8bb763d542dc3ed1ad076a46f951cf2605"), looks := false }, kinds := [], alts := [], laidByText := true, laidKinds := [.data], laidTests := true, laidLooks := .later }
def DateTellsCardSaid : Prop := Claim7.holds Tryd.pinned (.plain (OpenSpec.ofChange dateTellsSpec)) dateTellsCard

/-- THE TIED CARD OF 'novationlaw03.DateMonths'. -/
def dateMonthsCard : Claim7 := { stood := { row := dateMonthsRow, standIns := [], harness := (true, "c84a1fa9b477bebc67ae719abe759d8bb763d542dc3ed1ad076a46f951cf2605"), looks := false }, kinds := [], alts := [], laidByText := true, laidKinds := [.data], laidTests := true, laidLooks := .later }
def DateMonthsCardSaid : Prop := Claim7.holds Tryd.pinned (.plain (OpenSpec.ofChange dateMonthsSpec)) dateMonthsCard

/-- THE TIED CARD OF 'novationlaw03.DateTexts'. -/
def dateTextsCard : Claim7 := { stood := { row := dateTextsRow, standIns := [], harness := (true, "c84a1fa9b477bebc67ae719abe759d8bb763d542dc3ed1ad076a46f951cf2605"), looks := false }, kinds := [], alts := [], laidByText := true, laidKinds := [.data, .data, .data, .data], laidTests := true, laidLooks := .later }
def DateTextsCardSaid : Prop := Claim7.holds Tryd.pinned (.plain (OpenSpec.ofChange dateTextsSpec)) dateTextsCard

/-- THE TIED CARD OF 'novationlaw03.DateInverse'. -/
def dateInverseCard : Claim7 := { stood := { row := dateInverseRow, standIns := [], harness := (true, "c84a1fa9b477bebc67ae719abe759d8bb763d542dc3ed1ad076a46f951cf2605"), looks := false }, kinds := [], alts := [], laidByText := true, laidKinds := [.data, .data, .data, .data], laidTests := true, laidLooks := .later }
def DateInverseCardSaid : Prop := Claim7.holds Tryd.pinned (.plain (OpenSpec.ofChange dateInverseSpec)) dateInverseCard

/-- THE TIED CARD OF 'novationlaw03.DateOrder'. -/
def dateOrderCard : Claim7 := { stood := { row := dateOrderRow, standIns := [], harness := (true, "c84a1fa9b477bebc67ae719abe759d8bb763d542dc3ed1ad076a46f951cf2605"), looks := false }, kinds := [], alts := [], laidByText := true, laidKinds := [.data, .data, .data, .data], laidTests := true, laidLooks := .later }
def DateOrderCardSaid : Prop := Claim7.holds Tryd.pinned (.plain (OpenSpec.ofChange dateOrderSpec)) dateOrderCard

/-- THE TIED CARD OF 'novationlaw03.DateAdds'. -/
def dateAddsCard : Claim7 := { stood := { row := dateAddsRow, standIns := [], harness := (true, "c84a1fa9b477bebc67ae719abe759d8bb763d542dc3ed1ad076a46f951cf2605"), looks := false }, kinds := [], alts := [], laidByText := true, laidKinds := [.data, .data, .data, .data], laidTests := true, laidLooks := .later }
def DateAddsCardSaid : Prop := Claim7.holds Tryd.pinned (.plain (OpenSpec.ofChange dateAddsSpec)) dateAddsCard

/-- THE TIED CARD OF 'novationlaw03.DateWords'. -/
def dateWordsCard : Claim7 := { stood := { row := dateWordsRow, standIns := [], harness := (true, "c84a1fa9b477bebc67ae719abe759d8bb763d542dc3ed1ad076a46f951cf2605"), looks := false }, kinds := [], alts := [], laidByText := true, laidKinds := [.data, .data, .data, .data], laidTests := true, laidLooks := .later }
def DateWordsCardSaid : Prop := Claim7.holds Tryd.pinned (.plain (OpenSpec.ofChange dateWordsSpec)) dateWordsCard

/-- THE TIED CARD OF 'novationlaw03.DateYears'. -/
def dateYearsCard : Claim7 := { stood := { row := dateYearsRow, standIns := [], harness := (true, "c84a1fa9b477bebc67ae719abe759d8bb763d542dc3ed1ad076a46f951cf2605"), looks := false }, kinds := [], alts := [], laidByText := true, laidKinds := [.data, .data, .data, .data], laidTests := true, laidLooks := .later }
def DateYearsCardSaid : Prop := Claim7.holds Tryd.pinned (.plain (OpenSpec.ofChange dateYearsSpec)) dateYearsCard

/-- THE SECOND FORM's CARD OF 'novationlaw03.DateNames'. -/
def dateNamesUptoCard : Claim7 := { stood := { row := dateNamesUptoRow, standIns := [], harness := (true, "c84a1fa9b477bebc67ae719abe759d8bb763d542dc3ed1ad076a46f951cf2605"), looks := false }, kinds := [], alts := [], laidByText := true, laidKinds := [.data, .data, .data, .data], laidTests := true, laidLooks := .later }
def DateNamesUptoCardSaid : Prop := Claim7.holds Tryd.pinned (.plain (OpenSpec.upto dateNamesSpec)) dateNamesUptoCard

/-- THE SECOND FORM's CARD OF 'novationlaw03.DateTells'. -/
def dateTellsUptoCard : Claim7 := { stood := { row := dateTellsUptoRow, standIns := [], harness := (true, "c84a1fa9b477bebc67ae719abe759d8bb763d542dc3ed1ad076a46f951cf2605"), looks := false }, kinds := [], alts := [], laidByText := true, laidKinds := [.data], laidTests := true, laidLooks := .later }
def DateTellsUptoCardSaid : Prop := Claim7.holds Tryd.pinned (.plain (OpenSpec.upto dateTellsSpec)) dateTellsUptoCard

/-- THE SECOND FORM's CARD OF 'novationlaw03.DateMonths'. -/
def dateMonthsUptoCard : Claim7 := { stood := { row := dateMonthsUptoRow, standIns := [], harness := (true, "c84a1fa9b477bebc67ae719abe759d8bb763d542dc3ed1ad076a46f951cf2605"), looks := false }, kinds := [], alts := [], laidByText := true, laidKinds := [.data], laidTests := true, laidLooks := .later }
def DateMonthsUptoCardSaid : Prop := Claim7.holds Tryd.pinned (.plain (OpenSpec.upto dateMonthsSpec)) dateMonthsUptoCard

/-- THE SECOND FORM's CARD OF 'novationlaw03.DateTexts'. -/
def dateTextsUptoCard : Claim7 := { stood := { row := dateTextsUptoRow, standIns := [], harness := (true, "c84a1fa9b477bebc67ae719abe759d8bb763d542dc3ed1ad076a46f951cf2605"), looks := false }, kinds := [], alts := [], laidByText := true, laidKinds := [.data, .data, .data, .data], laidTests := true, laidLooks := .later }
def DateTextsUptoCardSaid : Prop := Claim7.holds Tryd.pinned (.plain (OpenSpec.upto dateTextsSpec)) dateTextsUptoCard

/-- THE SECOND FORM's CARD OF 'novationlaw03.DateInverse'. -/
def dateInverseUptoCard : Claim7 := { stood := { row := dateInverseUptoRow, standIns := [], harness := (true, "c84a1fa9b477bebc67ae719abe759d8bb763d542dc3ed1ad076a46f951cf2605"), looks := false }, kinds := [], alts := [], laidByText := true, laidKinds := [.data, .data, .data, .data], laidTests := true, laidLooks := .later }
def DateInverseUptoCardSaid : Prop := Claim7.holds Tryd.pinned (.plain (OpenSpec.upto dateInverseSpec)) dateInverseUptoCard

/-- THE SECOND FORM's CARD OF 'novationlaw03.DateOrder'. -/
def dateOrderUptoCard : Claim7 := { stood := { row := dateOrderUptoRow, standIns := [], harness := (true, "c84a1fa9b477bebc67ae719abe759d8bb763d542dc3ed1ad076a46f951cf2605"), looks := false }, kinds := [], alts := [], laidByText := true, laidKinds := [.data, .data, .data, .data], laidTests := true, laidLooks := .later }
def DateOrderUptoCardSaid : Prop := Claim7.holds Tryd.pinned (.plain (OpenSpec.upto dateOrderSpec)) dateOrderUptoCard

/-- THE SECOND FORM's CARD OF 'novationlaw03.DateAdds'. -/
def dateAddsUptoCard : Claim7 := { stood := { row := dateAddsUptoRow, standIns := [], harness := (true, "c84a1fa9b477bebc67ae719abe759d8bb763d542dc3ed1ad076a46f951cf2605"), looks := false }, kinds := [], alts := [], laidByText := true, laidKinds := [.data, .data, .data, .data], laidTests := true, laidLooks := .later }
def DateAddsUptoCardSaid : Prop := Claim7.holds Tryd.pinned (.plain (OpenSpec.upto dateAddsSpec)) dateAddsUptoCard

/-- THE SECOND FORM's CARD OF 'novationlaw03.DateWords'. -/
def dateWordsUptoCard : Claim7 := { stood := { row := dateWordsUptoRow, standIns := [], harness := (true, "c84a1fa9b477bebc67ae719abe759d8bb763d542dc3ed1ad076a46f951cf2605"), looks := false }, kinds := [], alts := [], laidByText := true, laidKinds := [.data, .data, .data, .data], laidTests := true, laidLooks := .later }
def DateWordsUptoCardSaid : Prop := Claim7.holds Tryd.pinned (.plain (OpenSpec.upto dateWordsSpec)) dateWordsUptoCard

/-- THE SECOND FORM's CARD OF 'novationlaw03.DateYears'. -/
def dateYearsUptoCard : Claim7 := { stood := { row := dateYearsUptoRow, standIns := [], harness := (true, "c84a1fa9b477bebc67ae719abe759d8bb763d542dc3ed1ad076a46f951cf2605"), looks := false }, kinds := [], alts := [], laidByText := true, laidKinds := [.data, .data, .data, .data], laidTests := true, laidLooks := .later }
def DateYearsUptoCardSaid : Prop := Claim7.holds Tryd.pinned (.plain (OpenSpec.upto dateYearsSpec)) dateYearsUptoCard
end Rows
end Go.Proofs.YteigcgncbkjmaaaDoor

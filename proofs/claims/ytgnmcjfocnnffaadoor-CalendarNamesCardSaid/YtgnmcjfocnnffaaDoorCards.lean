/-
  DERIVED. GIVEN WITH THE SEED: THE CARDS: each row of YtgnmcjfocnnffaaDoorRows.lean that lists a variable, with what it lists TIED to the program's text (the seventh form; the later family's looks); each row that meets fmt, with fmt's text TOLD by the authors' own Lean function (tested against real Go, not proved from fmt's source: count such statements apart). THE CARD IS WHAT COUNTS. Prove the row's statement (the work); the ties are given (YtgnmcjfocnnffaaDoorTie.lean); close each card by the builder's one call (the guide's Derived/Test/ToyasCard.lean, 'card_holds'). Laid BY PROGRAM, IN A SANDBOX (cutbox-door.mjs). By AI agents, Wed Nov 11 2026. No macro, syntax, notation, axiom, sorry.
-/
import Derived.Test.YtgnmcjfocnnffaaDoorRows
import GoSem.ClaimSeven
namespace Go.Proofs.YtgnmcjfocnnffaaDoor
namespace Rows

/-- THE TIED CARD OF 'novationlaw04.CalendarNames'. -/
def calendarNamesCard : Claim7 := { stood := { row := calendarNamesRow, standIns := [], harness := (true, "5258f01392a57012d1d15b4ad90e4ce55f4fc401726c2b43f20a6710b76525c0"), looks := false }, kinds := [], alts := [], laidByText := true, laidKinds := [.data, .data, .data, .data], laidTests := true, laidLooks := .later }
def CalendarNamesCardSaid : Prop := Claim7.holds Tryd.pinned (.plain (OpenSpec.ofChange calendarNamesSpec)) calendarNamesCard

/-- THE TIED CARD OF 'novationlaw04.CalendarRolls'. -/
def calendarRollsCard : Claim7 := { stood := { row := calendarRollsRow, standIns := [], harness := (true, "5258f01392a57012d1d15b4ad90e4ce55f4fc401726c2b43f20a6710b76525c0"), looks := false }, kinds := [], alts := [], laidByText := true, laidKinds := [.data], laidTests := true, laidLooks := .later }
def CalendarRollsCardSaid : Prop := Claim7.holds Tryd.pinned (.plain (OpenSpec.ofChange calendarRollsSpec)) calendarRollsCard

/-- THE TIED CARD OF 'novationlaw04.CalendarCounts'. -/
def calendarCountsCard : Claim7 := { stood := { row := calendarCountsRow, standIns := [], harness := (true, "5258f01392a57012d1d15b4ad90e4ce55f4fc401726c2b43f20a6710b76525c0"), looks := false }, kinds := [], alts := [], laidByText := true, laidKinds := [.data], laidTests := true, laidLooks := .later }
def CalendarCountsCardSaid : Prop := Claim7.holds Tryd.pinned (.plain (OpenSpec.ofChange calendarCountsSpec)) calendarCountsCard

/-- THE TIED CARD OF 'novationlaw04.CalendarNearest'. -/
def calendarNearestCard : Claim7 := { stood := { row := calendarNearestRow, standIns := [], harness := (true, "5258f01392a57012d1d15b4ad90e4ce55f4fc401726c2b43f20a6710b76525c0"), looks := false }, kinds := [], alts := [], laidByText := true, laidKinds := [.data, .data, .data, .data], laidTests := true, laidLooks := .later }
def CalendarNearestCardSaid : Prop := Claim7.holds Tryd.pinned (.plain (OpenSpec.ofChange calendarNearestSpec)) calendarNearestCard

/-- THE TIED CARD OF 'novationlaw04.CalendarAdds'. -/
def calendarAddsCard : Claim7 := { stood := { row := calendarAddsRow, standIns := [], harness := (true, "5258f01392a57012d1d15b4ad90e4ce55f4fc401726c2b43f20a6710b76525c0"), looks := false }, kinds := [], alts := [], laidByText := true, laidKinds := [.data, .data, .data, .data], laidTests := true, laidLooks := .later }
def CalendarAddsCardSaid : Prop := Claim7.holds Tryd.pinned (.plain (OpenSpec.ofChange calendarAddsSpec)) calendarAddsCard

/-- THE TIED CARD OF 'novationlaw04.CalendarSums'. -/
def calendarSumsCard : Claim7 := { stood := { row := calendarSumsRow, standIns := [], harness := (true, "5258f01392a57012d1d15b4ad90e4ce55f4fc401726c2b43f20a6710b76525c0"), looks := false }, kinds := [], alts := [], laidByText := true, laidKinds := [.data, .data, .data, .data], laidTests := true, laidLooks := .later }
def CalendarSumsCardSaid : Prop := Claim7.holds Tryd.pinned (.plain (OpenSpec.ofChange calendarSumsSpec)) calendarSumsCard

/-- THE TIED CARD OF 'novationlaw04.CalendarJoins'. -/
def calendarJoinsCard : Claim7 := { stood := { row := calendarJoinsRow, standIns := [], harness := (true, "5258f01392a57012d1d15b4ad90e4ce55f4fc401726c2b43f20a6710b76525c0"), looks := false }, kinds := [], alts := [], laidByText := true, laidKinds := [.data, .data, .data, .data], laidTests := true, laidLooks := .later }
def CalendarJoinsCardSaid : Prop := Claim7.holds Tryd.pinned (.plain (OpenSpec.ofChange calendarJoinsSpec)) calendarJoinsCard

/-- THE SECOND FORM's CARD OF 'novationlaw04.CalendarNames'. -/
def calendarNamesUptoCard : Claim7 := { stood := { row := calendarNamesUptoRow, standIns := [], harness := (true, "5258f01392a57012d1d15b4ad90e4ce55f4fc401726c2b43f20a6710b76525c0"), looks := false }, kinds := [], alts := [], laidByText := true, laidKinds := [.data, .data, .data, .data], laidTests := true, laidLooks := .later }
def CalendarNamesUptoCardSaid : Prop := Claim7.holds Tryd.pinned (.plain (OpenSpec.upto calendarNamesSpec)) calendarNamesUptoCard

/-- THE SECOND FORM's CARD OF 'novationlaw04.CalendarRolls'. -/
def calendarRollsUptoCard : Claim7 := { stood := { row := calendarRollsUptoRow, standIns := [], harness := (true, "5258f01392a57012d1d15b4ad90e4ce55f4fc401726c2b43f20a6710b76525c0"), looks := false }, kinds := [], alts := [], laidByText := true, laidKinds := [.data], laidTests := true, laidLooks := .later }
def CalendarRollsUptoCardSaid : Prop := Claim7.holds Tryd.pinned (.plain (OpenSpec.upto calendarRollsSpec)) calendarRollsUptoCard

/-- THE SECOND FORM's CARD OF 'novationlaw04.CalendarCounts'. -/
def calendarCountsUptoCard : Claim7 := { stood := { row := calendarCountsUptoRow, standIns := [], harness := (true, "5258f01392a57012d1d15b4ad90e4ce55f4fc401726c2b43f20a6710b76525c0"), looks := false }, kinds := [], alts := [], laidByText := true, laidKinds := [.data], laidTests := true, laidLooks := .later }
def CalendarCountsUptoCardSaid : Prop := Claim7.holds Tryd.pinned (.plain (OpenSpec.upto calendarCountsSpec)) calendarCountsUptoCard

/-- THE SECOND FORM's CARD OF 'novationlaw04.CalendarNearest'. -/
def calendarNearestUptoCard : Claim7 := { stood := { row := calendarNearestUptoRow, standIns := [], harness := (true, "5258f01392a57012d1d15b4ad90e4ce55f4fc401726c2b43f20a6710b76525c0"), looks := false }, kinds := [], alts := [], laidByText := true, laidKinds := [.data, .data, .data, .data], laidTests := true, laidLooks := .later }
def CalendarNearestUptoCardSaid : Prop := Claim7.holds Tryd.pinned (.plain (OpenSpec.upto calendarNearestSpec)) calendarNearestUptoCard

/-- THE SECOND FORM's CARD OF 'novationlaw04.CalendarAdds'. -/
def calendarAddsUptoCard : Claim7 := { stood := { row := calendarAddsUptoRow, standIns := [], harness := (true, "5258f01392a57012d1d15b4ad90e4ce55f4fc401726c2b43f20a6710b76525c0"), looks := false }, kinds := [], alts := [], laidByText := true, laidKinds := [.data, .data, .data, .data], laidTests := true, laidLooks := .later }
def CalendarAddsUptoCardSaid : Prop := Claim7.holds Tryd.pinned (.plain (OpenSpec.upto calendarAddsSpec)) calendarAddsUptoCard

/-- THE SECOND FORM's CARD OF 'novationlaw04.CalendarSums'. -/
def calendarSumsUptoCard : Claim7 := { stood := { row := calendarSumsUptoRow, standIns := [], harness := (true, "5258f01392a57012d1d15b4ad90e4ce55f4fc401726c2b43f20a6710b76525c0"), looks := false }, kinds := [], alts := [], laidByText := true, laidKinds := [.data, .data, .data, .data], laidTests := true, laidLooks := .later }
def CalendarSumsUptoCardSaid : Prop := Claim7.holds Tryd.pinned (.plain (OpenSpec.upto calendarSumsSpec)) calendarSumsUptoCard

/-- THE SECOND FORM's CARD OF 'novationlaw04.CalendarJoins'. -/
def calendarJoinsUptoCard : Claim7 := { stood := { row := calendarJoinsUptoRow, standIns := [], harness := (true, "5258f01392a57012d1d15b4ad90e4ce55f4fc401726c2b43f20a6710b76525c0"), looks := false }, kinds := [], alts := [], laidByText := true, laidKinds := [.data, .data, .data, .data], laidTests := true, laidLooks := .later }
def CalendarJoinsUptoCardSaid : Prop := Claim7.holds Tryd.pinned (.plain (OpenSpec.upto calendarJoinsSpec)) calendarJoinsUptoCard
end Rows
end Go.Proofs.YtgnmcjfocnnffaaDoor

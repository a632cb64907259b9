/-
  DERIVED. GIVEN WITH THE SEED: THE CARDS: each row of YtfheeipggedaiaaDoorRows.lean that lists a variable, with what it lists TIED to the program's text (the seventh form; the later family's looks); each row that meets fmt, with fmt's text TOLD by the authors' own Lean function (tested against real Go, not proved from fmt's source: count such statements apart). THE CARD IS WHAT COUNTS. Prove the row's statement (the work); the ties are given (YtfheeipggedaiaaDoorTie.lean); close each card by the builder's one call (the guide's Derived/Test/ToyasCard.lean, 'card_holds'). Laid BY PROGRAM, IN A SANDBOX (cutbox-door.mjs). By AI agents, Wed Nov 11 2026. No macro, syntax, notation, axiom, sorry.
-/
import Derived.Test.YtfheeipggedaiaaDoorRows
import GoSem.ClaimSeven
namespace Go.Proofs.YtfheeipggedaiaaDoor
namespace Rows

/-- THE TIED CARD OF 'novationlaw06.ScheduleNames'. -/
def scheduleNamesCard : Claim7 := { stood := { row := scheduleNamesRow, standIns := [], harness := (true, "425ff82036c3becda7b45d7744f8422b0616b9aaa9b30fa43dde42716e84dec3"), looks := false }, kinds := [], alts := [], laidByText := true, laidKinds := [.data], laidTests := true, laidLooks := .later }
def ScheduleNamesCardSaid : Prop := Claim7.holds Tryd.pinned (.plain (OpenSpec.ofChange scheduleNamesSpec)) scheduleNamesCard

/-- THE TIED CARD OF 'novationlaw06.ScheduleTells'. -/
def scheduleTellsCard : Claim7 := { stood := { row := scheduleTellsRow, standIns := [], harness := (true, "425ff82036c3becda7b45d7744f8422b0616b9aaa9b30fa43dde42716e84dec3"), looks := false }, kinds := [], alts := [], laidByText := true, laidKinds := [.data], laidTests := true, laidLooks := .later }
def ScheduleTellsCardSaid : Prop := Claim7.holds Tryd.pinned (.plain (OpenSpec.ofChange scheduleTellsSpec)) scheduleTellsCard

/-- THE TIED CARD OF 'novationlaw06.ScheduleFinds'. -/
def scheduleFindsCard : Claim7 := { stood := { row := scheduleFindsRow, standIns := [], harness := (true, "425ff82036c3becda7b45d7744f8422b0616b9aaa9b30fa43dde42716e84dec3"), looks := false }, kinds := [], alts := [], laidByText := true, laidKinds := [.data], laidTests := true, laidLooks := .later }
def ScheduleFindsCardSaid : Prop := Claim7.holds Tryd.pinned (.plain (OpenSpec.ofChange scheduleFindsSpec)) scheduleFindsCard

/-- THE TIED CARD OF 'novationlaw06.ScheduleCovers'. -/
def scheduleCoversCard : Claim7 := { stood := { row := scheduleCoversRow, standIns := [], harness := (true, "425ff82036c3becda7b45d7744f8422b0616b9aaa9b30fa43dde42716e84dec3"), looks := false }, kinds := [], alts := [], laidByText := true, laidKinds := [.data], laidTests := true, laidLooks := .later }
def ScheduleCoversCardSaid : Prop := Claim7.holds Tryd.pinned (.plain (OpenSpec.ofChange scheduleCoversSpec)) scheduleCoversCard

/-- THE TIED CARD OF 'novationlaw06.ScheduleSteps'. -/
def scheduleStepsCard : Claim7 := { stood := { row := scheduleStepsRow, standIns := [], harness := (true, "425ff82036c3becda7b45d7744f8422b0616b9aaa9b30fa43dde42716e84dec3"), looks := false }, kinds := [], alts := [], laidByText := true, laidKinds := [.data], laidTests := true, laidLooks := .later }
def ScheduleStepsCardSaid : Prop := Claim7.holds Tryd.pinned (.plain (OpenSpec.ofChange scheduleStepsSpec)) scheduleStepsCard

/-- THE TIED CARD OF 'novationlaw06.ScheduleStubs'. -/
def scheduleStubsCard : Claim7 := { stood := { row := scheduleStubsRow, standIns := [], harness := (true, "425ff82036c3becda7b45d7744f8422b0616b9aaa9b30fa43dde42716e84dec3"), looks := false }, kinds := [], alts := [], laidByText := true, laidKinds := [.data], laidTests := true, laidLooks := .later }
def ScheduleStubsCardSaid : Prop := Claim7.holds Tryd.pinned (.plain (OpenSpec.ofChange scheduleStubsSpec)) scheduleStubsCard

/-- THE TIED CARD OF 'novationlaw06.ScheduleInside'. -/
def scheduleInsideCard : Claim7 := { stood := { row := scheduleInsideRow, standIns := [], harness := (true, "425ff82036c3becda7b45d7744f8422b0616b9aaa9b30fa43dde42716e84dec3"), looks := false }, kinds := [], alts := [], laidByText := true, laidKinds := [.data], laidTests := true, laidLooks := .later }
def ScheduleInsideCardSaid : Prop := Claim7.holds Tryd.pinned (.plain (OpenSpec.ofChange scheduleInsideSpec)) scheduleInsideCard

/-- THE SECOND FORM's CARD OF 'novationlaw06.ScheduleNames'. -/
def scheduleNamesUptoCard : Claim7 := { stood := { row := scheduleNamesUptoRow, standIns := [], harness := (true, "425ff82036c3becda7b45d7744f8422b0616b9aaa9b30fa43dde42716e84dec3"), looks := false }, kinds := [], alts := [], laidByText := true, laidKinds := [.data], laidTests := true, laidLooks := .later }
def ScheduleNamesUptoCardSaid : Prop := Claim7.holds Tryd.pinned (.plain (OpenSpec.upto scheduleNamesSpec)) scheduleNamesUptoCard

/-- THE SECOND FORM's CARD OF 'novationlaw06.ScheduleTells'. -/
def scheduleTellsUptoCard : Claim7 := { stood := { row := scheduleTellsUptoRow, standIns := [], harness := (true, "425ff82036c3becda7b45d7744f8422b0616b9aaa9b30fa43dde42716e84dec3"), looks := false }, kinds := [], alts := [], laidByText := true, laidKinds := [.data], laidTests := true, laidLooks := .later }
def ScheduleTellsUptoCardSaid : Prop := Claim7.holds Tryd.pinned (.plain (OpenSpec.upto scheduleTellsSpec)) scheduleTellsUptoCard

/-- THE SECOND FORM's CARD OF 'novationlaw06.ScheduleFinds'. -/
def scheduleFindsUptoCard : Claim7 := { stood := { row := scheduleFindsUptoRow, standIns := [], harness := (true, "425ff82036c3becda7b45d7744f8422b0616b9aaa9b30fa43dde42716e84dec3"), looks := false }, kinds := [], alts := [], laidByText := true, laidKinds := [.data], laidTests := true, laidLooks := .later }
def ScheduleFindsUptoCardSaid : Prop := Claim7.holds Tryd.pinned (.plain (OpenSpec.upto scheduleFindsSpec)) scheduleFindsUptoCard

/-- THE SECOND FORM's CARD OF 'novationlaw06.ScheduleCovers'. -/
def scheduleCoversUptoCard : Claim7 := { stood := { row := scheduleCoversUptoRow, standIns := [], harness := (true, "425ff82036c3becda7b45d7744f8422b0616b9aaa9b30fa43dde42716e84dec3"), looks := false }, kinds := [], alts := [], laidByText := true, laidKinds := [.data], laidTests := true, laidLooks := .later }
def ScheduleCoversUptoCardSaid : Prop := Claim7.holds Tryd.pinned (.plain (OpenSpec.upto scheduleCoversSpec)) scheduleCoversUptoCard

/-- THE SECOND FORM's CARD OF 'novationlaw06.ScheduleSteps'. -/
def scheduleStepsUptoCard : Claim7 := { stood := { row := scheduleStepsUptoRow, standIns := [], harness := (true, "425ff82036c3becda7b45d7744f8422b0616b9aaa9b30fa43dde42716e84dec3"), looks := false }, kinds := [], alts := [], laidByText := true, laidKinds := [.data], laidTests := true, laidLooks := .later }
def ScheduleStepsUptoCardSaid : Prop := Claim7.holds Tryd.pinned (.plain (OpenSpec.upto scheduleStepsSpec)) scheduleStepsUptoCard

/-- THE SECOND FORM's CARD OF 'novationlaw06.ScheduleStubs'. -/
def scheduleStubsUptoCard : Claim7 := { stood := { row := scheduleStubsUptoRow, standIns := [], harness := (true, "425ff82036c3becda7b45d7744f8422b0616b9aaa9b30fa43dde42716e84dec3"), looks := false }, kinds := [], alts := [], laidByText := true, laidKinds := [.data], laidTests := true, laidLooks := .later }
def ScheduleStubsUptoCardSaid : Prop := Claim7.holds Tryd.pinned (.plain (OpenSpec.upto scheduleStubsSpec)) scheduleStubsUptoCard

/-- THE SECOND FORM's CARD OF 'novationlaw06.ScheduleInside'. -/
def scheduleInsideUptoCard : Claim7 := { stood := { row := scheduleInsideUptoRow, standIns := [], harness := (true, "425ff82036c3becda7b45d7744f8422b0616b9aaa9b30fa43dde42716e84dec3"), looks := false }, kinds := [], alts := [], laidByText := true, laidKinds := [.data], laidTests := true, laidLooks := .later }
def ScheduleInsideUptoCardSaid : Prop := Claim7.holds Tryd.pinned (.plain (OpenSpec.upto scheduleInsideSpec)) scheduleInsideUptoCard
end Rows
end Go.Proofs.YtfheeipggedaiaaDoor

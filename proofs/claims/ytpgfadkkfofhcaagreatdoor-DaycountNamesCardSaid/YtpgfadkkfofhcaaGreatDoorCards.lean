/-
  DERIVED. GIVEN WITH THE SEED: THE CARDS: each row of YtpgfadkkfofhcaaGreatDoorRows.lean that lists a variable, with what it lists TIED to the program's text (the seventh form; the later family's looks); each row that meets fmt, with fmt's text TOLD by the authors' own Lean function (tested against real Go, not proved from fmt's source: count such statements apart). THE CARD IS WHAT COUNTS. Prove the row's statement (the work); the ties are given (YtpgfadkkfofhcaaGreatDoorTie.lean); close each card by the builder's one call (the guide's Derived/Test/ToyasCard.lean, 'card_holds'). Laid BY PROGRAM, IN A SANDBOX (cutbox-door.mjs). By AI agents, Wed Nov 11 2026. No macro, syntax, notation, axiom, sorry.
-/
import Derived.Test.YtpgfadkkfofhcaaGreatDoorRows
import GoSem.ClaimSeven
namespace Go.Proofs.YtpgfadkkfofhcaaGreatDoor
namespace Rows

/-- THE TIED CARD OF 'novationlaw05.DaycountNames'. -/
def daycountNamesCard : Claim7 := { stood := { row := daycountNamesRow, standIns := [], harness := (true, "43fda32be24ca5c0826286e8ebf7cc34f600aac9dfbfb2b13971d69b3b2e0c8f"), looks := false }, kinds := [], alts := [], laidByText := true, laidKinds := [.data, .data, .data, .data], laidTests := true, laidLooks := .later }
def DaycountNamesCardSaid : Prop := Claim7.holds Tryz.pinned (.plain (OpenSpec.ofChange daycountNamesSpec)) daycountNamesCard

/-- THE TIED CARD OF 'novationlaw05.DaycountTells'. -/
def daycountTellsCard : Claim7 := { stood := { row := daycountTellsRow, standIns := [], harness := (true, "43fda32be24ca5c0826286e8ebf7cc34f600aac9dfbfb2b13971d69b3b2e0c8f"), looks := false }, kinds := [], alts := [], laidByText := true, laidKinds := [.data, .data, .data, .data], laidTests := true, laidLooks := .later }
def DaycountTellsCardSaid : Prop := Claim7.holds Tryz.pinned (.plain (OpenSpec.ofChange daycountTellsSpec)) daycountTellsCard

/-- THE TIED CARD OF 'novationlaw05.DaycountAdds'. -/
def daycountAddsCard : Claim7 := { stood := { row := daycountAddsRow, standIns := [], harness := (true, "43fda32be24ca5c0826286e8ebf7cc34f600aac9dfbfb2b13971d69b3b2e0c8f"), looks := false }, kinds := [], alts := [], laidByText := true, laidKinds := [.data, .data, .data, .data], laidTests := true, laidLooks := .later }
def DaycountAddsCardSaid : Prop := Claim7.holds Tryz.pinned (.plain (OpenSpec.ofChange daycountAddsSpec)) daycountAddsCard

/-- THE TIED CARD OF 'novationlaw05.DaycountSigns'. -/
def daycountSignsCard : Claim7 := { stood := { row := daycountSignsRow, standIns := [], harness := (true, "43fda32be24ca5c0826286e8ebf7cc34f600aac9dfbfb2b13971d69b3b2e0c8f"), looks := false }, kinds := [], alts := [], laidByText := true, laidKinds := [.data, .data, .data, .data], laidTests := true, laidLooks := .later }
def DaycountSignsCardSaid : Prop := Claim7.holds Tryz.pinned (.plain (OpenSpec.ofChange daycountSignsSpec)) daycountSignsCard

/-- THE TIED CARD OF 'novationlaw05.DaycountWhole'. -/
def daycountWholeCard : Claim7 := { stood := { row := daycountWholeRow, standIns := [], harness := (true, "43fda32be24ca5c0826286e8ebf7cc34f600aac9dfbfb2b13971d69b3b2e0c8f"), looks := false }, kinds := [], alts := [], laidByText := true, laidKinds := [.data, .data, .data, .data], laidTests := true, laidLooks := .later }
def DaycountWholeCardSaid : Prop := Claim7.holds Tryz.pinned (.plain (OpenSpec.ofChange daycountWholeSpec)) daycountWholeCard

/-- THE TIED CARD OF 'novationlaw05.DaycountOrder'. -/
def daycountOrderCard : Claim7 := { stood := { row := daycountOrderRow, standIns := [], harness := (true, "43fda32be24ca5c0826286e8ebf7cc34f600aac9dfbfb2b13971d69b3b2e0c8f"), looks := false }, kinds := [], alts := [], laidByText := true, laidKinds := [.data, .data, .data, .data], laidTests := true, laidLooks := .later }
def DaycountOrderCardSaid : Prop := Claim7.holds Tryz.pinned (.plain (OpenSpec.ofChange daycountOrderSpec)) daycountOrderCard

/-- THE SECOND FORM's CARD OF 'novationlaw05.DaycountNames'. -/
def daycountNamesUptoCard : Claim7 := { stood := { row := daycountNamesUptoRow, standIns := [], harness := (true, "43fda32be24ca5c0826286e8ebf7cc34f600aac9dfbfb2b13971d69b3b2e0c8f"), looks := false }, kinds := [], alts := [], laidByText := true, laidKinds := [.data, .data, .data, .data], laidTests := true, laidLooks := .later }
def DaycountNamesUptoCardSaid : Prop := Claim7.holds Tryz.pinned (.plain (OpenSpec.upto daycountNamesSpec)) daycountNamesUptoCard

/-- THE SECOND FORM's CARD OF 'novationlaw05.DaycountTells'. -/
def daycountTellsUptoCard : Claim7 := { stood := { row := daycountTellsUptoRow, standIns := [], harness := (true, "43fda32be24ca5c0826286e8ebf7cc34f600aac9dfbfb2b13971d69b3b2e0c8f"), looks := false }, kinds := [], alts := [], laidByText := true, laidKinds := [.data, .data, .data, .data], laidTests := true, laidLooks := .later }
def DaycountTellsUptoCardSaid : Prop := Claim7.holds Tryz.pinned (.plain (OpenSpec.upto daycountTellsSpec)) daycountTellsUptoCard

/-- THE SECOND FORM's CARD OF 'novationlaw05.DaycountAdds'. -/
def daycountAddsUptoCard : Claim7 := { stood := { row := daycountAddsUptoRow, standIns := [], harness := (true, "43fda32be24ca5c0826286e8ebf7cc34f600aac9dfbfb2b13971d69b3b2e0c8f"), looks := false }, kinds := [], alts := [], laidByText := true, laidKinds := [.data, .data, .data, .data], laidTests := true, laidLooks := .later }
def DaycountAddsUptoCardSaid : Prop := Claim7.holds Tryz.pinned (.plain (OpenSpec.upto daycountAddsSpec)) daycountAddsUptoCard

/-- THE SECOND FORM's CARD OF 'novationlaw05.DaycountSigns'. -/
def daycountSignsUptoCard : Claim7 := { stood := { row := daycountSignsUptoRow, standIns := [], harness := (true, "43fda32be24ca5c0826286e8ebf7cc34f600aac9dfbfb2b13971d69b3b2e0c8f"), looks := false }, kinds := [], alts := [], laidByText := true, laidKinds := [.data, .data, .data, .data], laidTests := true, laidLooks := .later }
def DaycountSignsUptoCardSaid : Prop := Claim7.holds Tryz.pinned (.plain (OpenSpec.upto daycountSignsSpec)) daycountSignsUptoCard

/-- THE SECOND FORM's CARD OF 'novationlaw05.DaycountWhole'. -/
def daycountWholeUptoCard : Claim7 := { stood := { row := daycountWholeUptoRow, standIns := [], harness := (true, "43fda32be24ca5c0826286e8ebf7cc34f600aac9dfbfb2b13971d69b3b2e0c8f"), looks := false }, kinds := [], alts := [], laidByText := true, laidKinds := [.data, .data, .data, .data], laidTests := true, laidLooks := .later }
def DaycountWholeUptoCardSaid : Prop := Claim7.holds Tryz.pinned (.plain (OpenSpec.upto daycountWholeSpec)) daycountWholeUptoCard

/-- THE SECOND FORM's CARD OF 'novationlaw05.DaycountOrder'. -/
def daycountOrderUptoCard : Claim7 := { stood := { row := daycountOrderUptoRow, standIns := [], harness := (true, "43fda32be24ca5c0826286e8ebf7cc34f600aac9dfbfb2b13971d69b3b2e0c8f"), looks := false }, kinds := [], alts := [], laidByText := true, laidKinds := [.data, .data, .data, .data], laidTests := true, laidLooks := .later }
def DaycountOrderUptoCardSaid : Prop := Claim7.holds Tryz.pinned (.plain (OpenSpec.upto daycountOrderSpec)) daycountOrderUptoCard
end Rows
end Go.Proofs.YtpgfadkkfofhcaaGreatDoor

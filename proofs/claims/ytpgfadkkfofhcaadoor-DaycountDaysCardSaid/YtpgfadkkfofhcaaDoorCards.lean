/-
  DERIVED. GIVEN WITH THE SEED: THE CARDS: each row of YtpgfadkkfofhcaaDoorRows.lean that lists a variable, with what it lists TIED to the program's text (the seventh form; the later family's looks); each row that meets fmt, with fmt's text TOLD by the authors' own Lean function (tested against real Go, not proved from fmt's source: count such statements apart). THE CARD IS WHAT COUNTS. Prove the row's statement (the work); the ties are given (YtpgfadkkfofhcaaDoorTie.lean); close each card by the builder's one call (the guide's Derived/Test/ToyasCard.lean, 'card_holds'). Laid BY PROGRAM, IN A SANDBOX (cutbox-door.mjs). By AI agents, Wed Nov 11 2026. No macro, syntax, notation, axiom, sorry.
-/
import Derived.Test.YtpgfadkkfofhcaaDoorRows
import GoSem.ClaimSeven
namespace Go.Proofs.YtpgfadkkfofhcaaDoor
namespace Rows

/-- THE TIED CARD OF 'novationlaw05.DaycountDays'. -/
def daycountDaysCard : Claim7 := { stood := { row := daycountDaysRow, standIns := [], harness := (true, "62f1a873cbdfcfcf705f1ca65477794f9f8bfbd5ad2bdfda2afcddd9bdde683f"), looks := false }, kinds := [], alts := [], laidByText := true, laidKinds := [.data], laidTests := true, laidLooks := .later }
def DaycountDaysCardSaid : Prop := Claim7.holds Tryd.pinned (.plain (OpenSpec.ofChange daycountDaysSpec)) daycountDaysCard

/-- THE SECOND FORM's CARD OF 'novationlaw05.DaycountDays'. -/
def daycountDaysUptoCard : Claim7 := { stood := { row := daycountDaysUptoRow, standIns := [], harness := (true, "62f1a873cbdfcfcf705f1ca65477794f9f8bfbd5ad2bdfda2afcddd9bdde683f"), looks := false }, kinds := [], alts := [], laidByText := true, laidKinds := [.data], laidTests := true, laidLooks := .later }
def DaycountDaysUptoCardSaid : Prop := Claim7.holds Tryd.pinned (.plain (OpenSpec.upto daycountDaysSpec)) daycountDaysUptoCard
end Rows
end Go.Proofs.YtpgfadkkfofhcaaDoor

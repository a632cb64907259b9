/- What the rows' conditions on the program's variables give the walks of layer 1: rows without the error variable. -/
import Derived.Test.YtpgfadkkfofhcaaGreatDoorIntV
import Derived.Test.YtpgfadkkfofhcaaGreatDoorIntA4
namespace Go.Proofs.YtpgfadkkfofhcaaGreatDoor
open Go Go.ChangeShapes Go.WideShapes Go.ChangeAt Go.RowKit

theorem vart_of {W : World} (h : laidMetH Tryz.prog Rows.daycountNamesRow.laid W) : VarT W := by
  rw [MakeChecks.laidMetH_plain _ _ _ (by kernel_rfl)] at h
  have h1 : laidMet Tryz.prog _ W := h.tail
  have t1 : Lib.TabIs Tryz.prog W "math/bits.deBruijn64tab" .u8 db64 := Lib.tabIs_of_head gDb64 (t := 178) (by kernel_rfl) Tryz.underlying178 Tryz.underlying5 (by kernel_rfl) (by kernel_rfl) h1
  have c1 := t1.cell gDb64 0 (by decide)
  have h2 := h1.tail
  have t2 : Lib.TabIs Tryz.prog W "internal/strconv.uint64pow10" .u64 Lib.pow10Tab := Lib.tabIs_of_head gTab (t := 164) (by kernel_rfl) Tryz.underlying164 Tryz.underlying148 (by kernel_rfl) (by kernel_rfl) h2
  exact ⟨by have := lt_of_cell c1; omega, t2⟩
end Go.Proofs.YtpgfadkkfofhcaaGreatDoor

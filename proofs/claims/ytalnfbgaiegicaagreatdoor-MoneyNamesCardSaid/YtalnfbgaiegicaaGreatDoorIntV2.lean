/- What the rows' conditions on the program's variables give the walks of layer 1: rows without the error variable. -/
import Derived.Test.YtalnfbgaiegicaaGreatDoorIntV
import Derived.Test.YtalnfbgaiegicaaGreatDoorIntA4
namespace Go.Proofs.YtalnfbgaiegicaaGreatDoor
open Go Go.ChangeShapes Go.WideShapes Go.ChangeAt Go.RowKit

theorem vart_of {W : World} (h : laidMetH Tryz.prog Rows.moneyNamesRow.laid W) : VarT W := by
  rw [MakeChecks.laidMetH_plain _ _ _ (by kernel_rfl)] at h
  have h1 : laidMet Tryz.prog _ W := h.tail
  have t1 : Lib.TabIs Tryz.prog W "math/bits.deBruijn64tab" .u8 db64 := Lib.tabIs_of_head gDb64 (t := 250) (by kernel_rfl) Tryz.underlying250 Tryz.underlying5 (by kernel_rfl) (by kernel_rfl) h1
  have c1 := t1.cell gDb64 0 (by decide)
  have h2 := h1.tail
  have t2 : Lib.TabIs Tryz.prog W "internal/strconv.uint64pow10" .u64 Lib.pow10Tab := Lib.tabIs_of_head gTab (t := 241) (by kernel_rfl) Tryz.underlying241 Tryz.underlying197 (by kernel_rfl) (by kernel_rfl) h2
  exact ⟨by have := lt_of_cell c1; omega, t2⟩
end Go.Proofs.YtalnfbgaiegicaaGreatDoor

/- What the rows' conditions on the program's variables give the walks: the variables of layers 2 and 3. -/
import Derived.Test.YtpgfadkkfofhcaaGreatDoorDcG
import Derived.Test.YtpgfadkkfofhcaaGreatDoorDcV
namespace Go.Proofs.YtpgfadkkfofhcaaGreatDoor
open Go Go.ChangeShapes Go.WideShapes Go.ChangeAt Go.RowKit

theorem dvarf_of {W : World} (h : laidMetH Tryz.prog Rows.daycountTellsRow.laid W) (hs : W.ShapedOpen Tryz.prog) : VarF W := by -- 4
  refine ⟨varr_of (vart_of h) hs, ?_⟩
  rw [MakeChecks.laidMetH_plain _ _ _ (by kernel_rfl)] at h
  have h1 : laidMet Tryz.prog _ W := h.tail
  have h2 : laidMet Tryz.prog _ W := h1.tail
  have t : Lib.TabIs Tryz.prog W "novation/date.lengths" .i64 lens := Lib.tabIs_of_head gLenE (t := 87) (by kernel_rfl) Tryz.underlying87 Tryz.underlying3 (by kernel_rfl) (by kernel_rfl) h2.tail
  exact ⟨fun k hk => t.cell gLenE k hk⟩
end Go.Proofs.YtpgfadkkfofhcaaGreatDoor

/- What the row's conditions on the program's variables give the walks: the lengths of months. -/
import Derived.Test.YtpgfadkkfofhcaaDoorDatA
import Derived.Test.YtpgfadkkfofhcaaDoorRows
import Derived.ProofKit
import Derived.LaidMore
import Derived.LaidHandle
import Derived.MakeChecks
import Derived.Lib.LaidTab
import Derived.Stop.LaidErr
namespace Go.Proofs.YtpgfadkkfofhcaaDoor
open Go Go.ChangeShapes Go.WideShapes Go.ChangeAt Go.RowKit

theorem gLenE : Tryd.prog.globalNamed "novation/date.lengths" = some 0 := by kernel_rfl
theorem dvard_of {W : World} (h : laidMetH Tryd.prog Rows.daycountDaysRow.laid W) : VarD W := by -- 3
  rw [MakeChecks.laidMetH_plain _ _ _ (by kernel_rfl)] at h
  have t : Lib.TabIs Tryd.prog W "novation/date.lengths" .i64 lens := Lib.tabIs_of_head gLenE (t := 49) (by kernel_rfl) Tryd.underlying49 Tryd.underlying3 (by kernel_rfl) (by kernel_rfl) h
  exact ⟨fun k hk => t.cell gLenE k hk⟩
end Go.Proofs.YtpgfadkkfofhcaaDoor

/- Layer 6: what the rows' conditions on the program's variables give the walks. -/
import Derived.Test.YtfheeipggedaiaaDoorScZ
import Derived.Test.YtfheeipggedaiaaDoorRows
import Derived.ProofKit
import Derived.LaidMore
import Derived.LaidHandle
import Derived.MakeChecks
import Derived.Lib.LaidTab
namespace Go.Proofs.YtfheeipggedaiaaDoor
open Go Go.ChangeShapes Go.WideShapes Go.ChangeAt Go.RowKit

theorem gLen6 : Tryd.prog.globalNamed "novation/date.lengths" = some 0 := by kernel_rfl
/-- The program's variable, as the rows lay it. -/
theorem svar_of {W : World} (h : laidMetH Tryd.prog Rows.scheduleTellsRow.laid W) : VarD W := by
  rw [MakeChecks.laidMetH_plain _ _ _ (by kernel_rfl)] at h
  have t : Lib.TabIs Tryd.prog W "novation/date.lengths" .i64 lens := Lib.tabIs_of_head gLen6 (t := 84) (by kernel_rfl) Tryd.underlying84 Tryd.underlying3 (by kernel_rfl) (by kernel_rfl) h
  exact ⟨fun k hk => t.cell gLen6 k hk⟩
end Go.Proofs.YtfheeipggedaiaaDoor

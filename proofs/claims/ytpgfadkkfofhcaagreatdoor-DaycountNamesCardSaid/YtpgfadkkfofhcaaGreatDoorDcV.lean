/- What the row's conditions on the program's variables give the walks: the lengths of months. -/
import Derived.Test.YtpgfadkkfofhcaaGreatDoorDatA
import Derived.Test.YtpgfadkkfofhcaaGreatDoorRows
import Derived.ProofKit
import Derived.LaidMore
import Derived.LaidHandle
import Derived.MakeChecks
import Derived.Lib.LaidTab
import Derived.Stop.LaidErr
namespace Go.Proofs.YtpgfadkkfofhcaaGreatDoor
open Go Go.ChangeShapes Go.WideShapes Go.ChangeAt Go.RowKit

theorem gLenE : Tryz.prog.globalNamed "novation/date.lengths" = some 0 := by kernel_rfl
end Go.Proofs.YtpgfadkkfofhcaaGreatDoor

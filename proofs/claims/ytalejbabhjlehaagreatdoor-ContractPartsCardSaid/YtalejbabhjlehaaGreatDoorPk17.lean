/- What the rows' conditions on the program's variables give the walks of layer 1: rows without the error variable. -/
import Derived.Test.YtalejbabhjlehaaGreatDoorPk16
import Derived.Test.YtalejbabhjlehaaGreatDoorPk10
namespace Go.Proofs.YtalejbabhjlehaaGreatDoor
open Go Go.ChangeShapes Go.WideShapes Go.ChangeAt Go.RowKit
end Go.Proofs.YtalejbabhjlehaaGreatDoor

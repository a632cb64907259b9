/- What the rows' conditions on the program's variables give the walks of layer 1: rows without the error variable. -/
import Derived.Test.YtnomccgdajcfiaaGreatDoorPk14
import Derived.Test.YtnomccgdajcfiaaGreatDoorPk8
namespace Go.Proofs.YtnomccgdajcfiaaGreatDoor
open Go Go.ChangeShapes Go.WideShapes Go.ChangeAt Go.RowKit
end Go.Proofs.YtnomccgdajcfiaaGreatDoor

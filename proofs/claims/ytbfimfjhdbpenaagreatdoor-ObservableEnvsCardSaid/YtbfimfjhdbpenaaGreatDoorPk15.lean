/- What the rows' conditions on the program's variables give the walks of layer 1: rows without the error variable. -/
import Derived.Test.YtbfimfjhdbpenaaGreatDoorPk14
import Derived.Test.YtbfimfjhdbpenaaGreatDoorPk8
namespace Go.Proofs.YtbfimfjhdbpenaaGreatDoor
open Go Go.ChangeShapes Go.WideShapes Go.ChangeAt Go.RowKit
end Go.Proofs.YtbfimfjhdbpenaaGreatDoor

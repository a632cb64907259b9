/- What the rows' conditions on the program's variables give the walks of layer 1: rows without the error variable. -/
import Derived.Test.YtnomccgdajcfiaaDoorPk15
import Derived.Test.YtnomccgdajcfiaaDoorPk9
namespace Go.Proofs.YtnomccgdajcfiaaDoor
open Go Go.ChangeShapes Go.WideShapes Go.ChangeAt Go.RowKit
end Go.Proofs.YtnomccgdajcfiaaDoor

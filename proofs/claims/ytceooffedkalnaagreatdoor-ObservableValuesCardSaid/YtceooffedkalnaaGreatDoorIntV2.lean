/- What the rows' conditions on the program's variables give the walks of layer 1: rows without the error variable. -/
import Derived.Test.YtceooffedkalnaaGreatDoorIntV
import Derived.Test.YtceooffedkalnaaGreatDoorIntA4
namespace Go.Proofs.YtceooffedkalnaaGreatDoor
open Go Go.ChangeShapes Go.WideShapes Go.ChangeAt Go.RowKit
end Go.Proofs.YtceooffedkalnaaGreatDoor

/- What the rows' conditions on the program's variables give the walks of layer 1: rows without the error variable. -/
import Derived.Test.YtceooffedkalnaaGreatDoorPu14
import Derived.Test.YtceooffedkalnaaGreatDoorPu8
namespace Go.Proofs.YtceooffedkalnaaGreatDoor
open Go Go.ChangeShapes Go.WideShapes Go.ChangeAt Go.RowKit
end Go.Proofs.YtceooffedkalnaaGreatDoor

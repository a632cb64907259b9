/- Layer 8: lists of structs in rows of the call's own; append to an empty slice. -/
import Derived.Test.YtalejbabhjlehaaGreatDoorPk20
import Derived.Test.YtalejbabhjlehaaGreatDoorPk25
import Derived.OwnWalk
import Derived.Laws.OwnMore
import Derived.Laws.AppendOwn
import Derived.Deep.RegionHeld3
import Derived.Deep.RegionLaw
namespace Go.Proofs.YtalejbabhjlehaaGreatDoor
open Go Go.RowKit Go.BigFrame
section
variable {P : Program} {w : World}
end
section
variable {P : Program} {w : World} {α : Type} {enc : α → List Value} {k : Nat}
end
end Go.Proofs.YtalejbabhjlehaaGreatDoor

/- Joined: RatAo, RatAk. -/
import Derived.Test.YtalejbabhjlehaaGreatDoorPk21
import Derived.OwnWalk
import Derived.Laws.OwnMore
/- The walks of layer 2: Sum. -/
namespace Go.Proofs.YtalejbabhjlehaaGreatDoor
open Go Go.RowKit
end Go.Proofs.YtalejbabhjlehaaGreatDoor
/- Joined: RatAk, RatAl, RatAm, RatAp. -/
/- The walks of the reference of layer 2: Four, Cross, fraction, Add, Negative, Sub, Mul, Div, Compare. -/
namespace Go.Proofs.YtalejbabhjlehaaGreatDoor
open Go Go.RowKit
end Go.Proofs.YtalejbabhjlehaaGreatDoor
/- The walks of the reference of layer 2: digits, Round. -/
namespace Go.Proofs.YtalejbabhjlehaaGreatDoor
open Go Go.RowKit
end Go.Proofs.YtalejbabhjlehaaGreatDoor
/- The reference of layer 2: what Round answers; Great of two. -/
namespace Go.Proofs.YtalejbabhjlehaaGreatDoor
open Go Go.RowKit
end Go.Proofs.YtalejbabhjlehaaGreatDoor
/- The walks of the reference of layer 2: Sum, raised, Power. -/
namespace Go.Proofs.YtalejbabhjlehaaGreatDoor
open Go Go.RowKit
end Go.Proofs.YtalejbabhjlehaaGreatDoor

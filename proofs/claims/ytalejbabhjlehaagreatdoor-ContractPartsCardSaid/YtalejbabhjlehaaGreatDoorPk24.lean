/- Joined: ObP, ObQ. -/
import Derived.Test.YtalejbabhjlehaaGreatDoorPk20
import Derived.Test.YtalejbabhjlehaaGreatDoorPk23
/- Layer 8: fixBefore, pickBefore, CheckEnv of the reference. -/
namespace Go.Proofs.YtalejbabhjlehaaGreatDoor
open Go Go.RowKit Go.BigFrame
end Go.Proofs.YtalejbabhjlehaaGreatDoor
/- Layer 8: CheckEnv of the reference. -/
namespace Go.Proofs.YtalejbabhjlehaaGreatDoor
open Go Go.RowKit Go.BigFrame
end Go.Proofs.YtalejbabhjlehaaGreatDoor

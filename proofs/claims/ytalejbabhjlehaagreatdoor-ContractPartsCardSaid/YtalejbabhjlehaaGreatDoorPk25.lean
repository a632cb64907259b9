/- Joined: ObK, ObK1, ObK2, ObK3, ObK4, ObK5, ObL, ObR, ObS, ObT, ObU, ObV. -/
import Derived.Test.YtalejbabhjlehaaGreatDoorPk20
import Derived.Test.YtalejbabhjlehaaGreatDoorPk23
import Derived.Test.YtalejbabhjlehaaGreatDoorPk24
import Derived.Deep.CutRange
/- Layer 8: Sort of the reference. -/
namespace Go.Proofs.YtalejbabhjlehaaGreatDoor
open Go Go.RowKit Go.BigFrame
end Go.Proofs.YtalejbabhjlehaaGreatDoor
/- Layer 8: Sort of the reference: kinds without parts. -/
namespace Go.Proofs.YtalejbabhjlehaaGreatDoor
open Go Go.RowKit Go.BigFrame
end Go.Proofs.YtalejbabhjlehaaGreatDoor
/- Layer 8: Sort of the reference: operations. -/
namespace Go.Proofs.YtalejbabhjlehaaGreatDoor
open Go Go.RowKit Go.BigFrame
end Go.Proofs.YtalejbabhjlehaaGreatDoor
/- Layer 8: Sort of the reference: comparisons. -/
namespace Go.Proofs.YtalejbabhjlehaaGreatDoor
open Go Go.RowKit Go.BigFrame
end Go.Proofs.YtalejbabhjlehaaGreatDoor
/- Layer 8: Sort of the reference: connectives. -/
namespace Go.Proofs.YtalejbabhjlehaaGreatDoor
open Go Go.RowKit Go.BigFrame
end Go.Proofs.YtalejbabhjlehaaGreatDoor
/- Layer 8: Sort of the reference. -/
namespace Go.Proofs.YtalejbabhjlehaaGreatDoor
open Go Go.RowKit Go.BigFrame
end Go.Proofs.YtalejbabhjlehaaGreatDoor
/- Layer 8: Check of the reference. -/
namespace Go.Proofs.YtalejbabhjlehaaGreatDoor
open Go Go.RowKit Go.BigFrame
end Go.Proofs.YtalejbabhjlehaaGreatDoor
/- Layer 8: cmp.Compare, cmp.Or; compareFixings, compareChoices of the program. -/
namespace Go.Proofs.YtalejbabhjlehaaGreatDoor
open Go Go.RowKit Go.BigFrame
end Go.Proofs.YtalejbabhjlehaaGreatDoor
/- Layer 8: compareFixings, compareChoices, isFixing, isChoice of the program. -/
namespace Go.Proofs.YtalejbabhjlehaaGreatDoor
open Go Go.RowKit Go.BigFrame
end Go.Proofs.YtalejbabhjlehaaGreatDoor
/- Layer 8: inOrder, CheckEnv of the program. -/
namespace Go.Proofs.YtalejbabhjlehaaGreatDoor
open Go Go.RowKit Go.BigFrame
end Go.Proofs.YtalejbabhjlehaaGreatDoor
/- Layer 8: Find, Chosen of the reference and of the program. -/
namespace Go.Proofs.YtalejbabhjlehaaGreatDoor
open Go Go.RowKit Go.BigFrame
end Go.Proofs.YtalejbabhjlehaaGreatDoor
/- Layer 8: Find, Chosen of the program. -/
namespace Go.Proofs.YtalejbabhjlehaaGreatDoor
open Go Go.RowKit Go.BigFrame
theorem row_cell {w : World} {q : Nat} {cs : Array Value} {t : TypeId} {j : Nat} {v : Value} (h : w.heap[q]? = some (.cells cs t (0, 0))) (hv : cs[j]? = some v) : w.cell? ⟨q, j, none⟩ = some v := by
  simp [World.cell?, h, hv]
end Go.Proofs.YtalejbabhjlehaaGreatDoor

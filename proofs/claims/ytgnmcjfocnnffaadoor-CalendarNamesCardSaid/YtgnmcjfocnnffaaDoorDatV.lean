/- Layer 3: what the rows' conditions on the program's variables give the walks. -/
import Derived.Test.YtgnmcjfocnnffaaDoorDatA
import Derived.Test.YtgnmcjfocnnffaaDoorRows
import Derived.Test.YtgnmcjfocnnffaaDoorShelf
import Derived.ProofKit
import Derived.LaidMore
import Derived.LaidHandle
import Derived.MakeChecks
import Derived.Lib.LaidTab
import Derived.Stop.LaidErr
namespace Go.Proofs.YtgnmcjfocnnffaaDoor
open Go Go.ChangeShapes Go.WideShapes Go.ChangeAt Go.RowKit

theorem lt_of_cell {w : World} {b o : Nat} {v : Value} (h : w.cell? ⟨b, o, none⟩ = some v) : b < w.heap.size := by
  rcases Nat.lt_or_ge b w.heap.size with hl | hl
  · exact hl
  · simp [World.cell?, Array.getElem?_eq_none hl] at h
theorem gTab : Tryd.prog.globalNamed "internal/strconv.uint64pow10" = some 1 := by kernel_rfl
theorem gLen : Tryd.prog.globalNamed "novation/date.lengths" = some 0 := by kernel_rfl

/-- The program's variables that layer 3 reaches. -/
structure VarS (w : World) : Prop where
  d : VarD w
  tab : Lib.TabIs Tryd.prog w "internal/strconv.uint64pow10" .u64 Lib.pow10Tab
theorem VarS.below {w w' : World} (h : VarS w) (hb : Below w.heap.size w w') : VarS w' :=
  ⟨h.d.below hb, var?_below hb gTab (lt_of_cell (h.tab.cell gTab 0 (by decide))) h.tab⟩

end Go.Proofs.YtgnmcjfocnnffaaDoor

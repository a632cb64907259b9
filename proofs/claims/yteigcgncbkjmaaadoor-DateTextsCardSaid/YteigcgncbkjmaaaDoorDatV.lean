/- Layer 3: what the rows' conditions on the program's variables give the walks. -/
import Derived.Test.YteigcgncbkjmaaaDoorDatA
import Derived.Test.YteigcgncbkjmaaaDoorRows
import Derived.Test.YteigcgncbkjmaaaDoorShelf
import Derived.ProofKit
import Derived.LaidMore
import Derived.LaidHandle
import Derived.MakeChecks
import Derived.Lib.LaidTab
import Derived.Stop.LaidErr
namespace Go.Proofs.YteigcgncbkjmaaaDoor
open Go Go.ChangeShapes Go.WideShapes Go.ChangeAt Go.RowKit

theorem lt_of_cell {w : World} {b o : Nat} {v : Value} (h : w.cell? ⟨b, o, none⟩ = some v) : b < w.heap.size := by
  rcases Nat.lt_or_ge b w.heap.size with hl | hl
  · exact hl
  · simp [World.cell?, Array.getElem?_eq_none hl] at h
theorem gTab : Tryd.prog.globalNamed "internal/strconv.uint64pow10" = some 1 := by kernel_rfl
theorem gLen : Tryd.prog.globalNamed "novation/date.lengths" = some 0 := by kernel_rfl

/-- The program's variables that layer 3 reaches. -/
structure VarS (w : World) : Prop where
  d : VarD w
  tab : Lib.TabIs Tryd.prog w "internal/strconv.uint64pow10" .u64 Lib.pow10Tab
theorem VarS.below {w w' : World} (h : VarS w) (hb : Below w.heap.size w w') : VarS w' :=
  ⟨h.d.below hb, var?_below hb gTab (lt_of_cell (h.tab.cell gTab 0 (by decide))) h.tab⟩

theorem vard_of {W : World} (h : laidMetH Tryd.prog Rows.dateTellsRow.laid W) : VarD W := by
  rw [MakeChecks.laidMetH_plain _ _ _ (by kernel_rfl)] at h
  have t : Lib.TabIs Tryd.prog W "novation/date.lengths" .i64 lens := Lib.tabIs_of_head gLen (t := 59) (by kernel_rfl) Tryd.underlying59 Tryd.underlying3 (by kernel_rfl) (by kernel_rfl) h
  exact ⟨fun k hk => t.cell gLen k hk⟩
theorem vars_of {W : World} (h : laidMetH Tryd.prog Rows.dateInverseRow.laid W) : VarS W := by
  rw [MakeChecks.laidMetH_plain _ _ _ (by kernel_rfl)] at h
  have h1 : laidMet Tryd.prog _ W := h.tail
  have h2 : laidMet Tryd.prog _ W := h1.tail
  have t2 : Lib.TabIs Tryd.prog W "internal/strconv.uint64pow10" .u64 Lib.pow10Tab := Lib.tabIs_of_head gTab (t := 71) (by kernel_rfl) Tryd.underlying71 Tryd.underlying65 (by kernel_rfl) (by kernel_rfl) h2
  have t : Lib.TabIs Tryd.prog W "novation/date.lengths" .i64 lens := Lib.tabIs_of_head gLen (t := 59) (by kernel_rfl) Tryd.underlying59 Tryd.underlying3 (by kernel_rfl) (by kernel_rfl) h2.tail
  exact ⟨⟨fun k hk => t.cell gLen k hk⟩, t2⟩
end Go.Proofs.YteigcgncbkjmaaaDoor

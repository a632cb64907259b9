/- What the rows' conditions on the program's variables give the walks of layer 1. -/
import Derived.Test.YtlipjedofegciaaDoorIntA3
import Derived.Test.YtlipjedofegciaaDoorRows
import Derived.ProofKit
import Derived.LaidMore
import Derived.LaidHandle
import Derived.MakeChecks
import Derived.Lib.LaidTab
import Derived.Stop.LaidErr
namespace Go.Proofs.YtlipjedofegciaaDoor
open Go Go.ChangeShapes Go.WideShapes Go.ChangeAt Go.RowKit

theorem lt_of_cell {w : World} {b o : Nat} {v : Value} (h : w.cell? ⟨b, o, none⟩ = some v) : b < w.heap.size := by
  rcases Nat.lt_or_ge b w.heap.size with hl | hl
  · exact hl
  · simp [World.cell?, Array.getElem?_eq_none hl] at h

theorem gDb64 : Tryd.prog.globalNamed "math/bits.deBruijn64tab" = some 7 := by kernel_rfl
def db64 : List Int := [0, 1, 56, 2, 57, 49, 28, 3, 61, 58, 42, 50, 38, 29, 17, 4, 62, 47, 59, 36, 45, 43, 51, 22, 53, 39, 33, 30, 24, 18, 12, 5, 63, 55, 48, 27, 60, 41, 37, 16, 46, 35, 44, 21, 52, 32, 23, 11, 54, 26, 40, 15, 34, 20, 31, 10, 25, 14, 19, 9, 13, 8, 7, 6]

theorem star_errorString : "*" ++ "errors.errorString" = "*errors.errorString" := by decide
theorem row_errorString (u : TypeId) (h : Tryd.prog.typeName? 3 u = some "*errors.errorString") : u = 162 :=
  typeName_ptr_named (nm := "errors.errorString") (by rw [star_errorString]; kernel_rfl) (by kernel_rfl) (by decide) u (by rw [star_errorString]; exact h)
/-- What the row's condition gives the walks. -/
theorem vars_of_laid {W : World} (h : laidMetH Tryd.prog Rows.integerSmallRow.laid W) : Vars W := by
  rw [MakeChecks.laidMetH_plain _ _ _ (by kernel_rfl)] at h
  have h1 : laidMet Tryd.prog _ W := h.tail
  have t1 : Lib.TabIs Tryd.prog W "math/bits.deBruijn64tab" .u8 db64 := Lib.tabIs_of_head gDb64 (t := 170) (by kernel_rfl) Tryd.underlying170 Tryd.underlying5 (by kernel_rfl) (by kernel_rfl) h1
  have c1 := t1.cell gDb64 0 (by decide)
  have h2 := h1.tail
  have t2 : Lib.TabIs Tryd.prog W "internal/strconv.uint64pow10" .u64 Lib.pow10Tab := Lib.tabIs_of_head gTab (t := 158) (by kernel_rfl) Tryd.underlying158 Tryd.underlying115 (by kernel_rfl) (by kernel_rfl) h2
  obtain ⟨a3, s3, hv3, _, _, _⟩ := laid_sentinel h2.tail gErr (by kernel_rfl : (Tryd.prog.globals[3]?).map (·.type) = some 80) Tryd.underlying80 row_errorString Tryd.underlying162 Tryd.underlying164 rfl rfl Tryd.underlying9 (by kernel_rfl) (by kernel_rfl)
  exact ⟨by have := lt_of_cell c1; omega, t2, _, _, hv3⟩
end Go.Proofs.YtlipjedofegciaaDoor

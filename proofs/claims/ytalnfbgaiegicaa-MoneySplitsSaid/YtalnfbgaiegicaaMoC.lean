/- Layer 7: the reference's walks: Unit. -/
import Derived.Test.YtalnfbgaiegicaaMoB
namespace Go.Proofs.Ytalnfbgaiegicaa
open Go Go.RowKit

theorem ba_beq {s : ByteArray} {l : List UInt8} (h : s.data.toList ≠ l) : (s.toList == l) = false := by
  rw [Lib.toList_data, beq_eq_false_iff_ne]
  exact h
theorem ba_of {s : ByteArray} {a : Array UInt8} (h : s.data.toList = a.toList) : s = ⟨a⟩ := by
  cases s with
  | mk d => exact congrArg ByteArray.mk (Array.toList_inj.1 h)
end Go.Proofs.Ytalnfbgaiegicaa

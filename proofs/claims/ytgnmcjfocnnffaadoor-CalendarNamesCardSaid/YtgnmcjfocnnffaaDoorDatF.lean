/- Layer 3: the program's walks over texts. -/
import Derived.Test.YtgnmcjfocnnffaaDoorDatC
import Derived.Test.YtgnmcjfocnnffaaDoorDatT
import Derived.Test.YtgnmcjfocnnffaaDoorDatV
namespace Go.Proofs.YtgnmcjfocnnffaaDoor
open Go Go.RowKit

theorem ne45 (c : UInt8) : ((c.toNat : Int) != 45) = !decide (c = 45) := by
  refine congrArg not ?_
  rw [Bool.eq_iff_iff, beq_iff_eq, decide_eq_true_iff, ← UInt8.toNat_inj]
  exact ⟨fun h => by show c.toNat = 45; omega, fun h => by have : c.toNat = 45 := h; omega⟩
theorem getElem_toList (s : ByteArray) (k : Nat) (h : k < s.size) : s.data.toList[k]? = some s[k] := by
  rw [List.getElem?_eq_getElem (by simpa using h)]; rfl
theorem getD_toList (s : ByteArray) (k : Nat) (h : k < s.size) : s.data.toList.getD k 0 = s[k] := by
  rw [List.getD_eq_getElem?_getD, getElem_toList s k h]; rfl

end Go.Proofs.YtgnmcjfocnnffaaDoor

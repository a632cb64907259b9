/- Layer 3: the program's walks: number, Parse, Text. -/
import Derived.Test.YtgnmcjfocnnffaaDoorDatF
namespace Go.Proofs.YtgnmcjfocnnffaaDoor
open Go Go.RowKit

theorem take_snoc (l : List UInt8) (k : Nat) (h : k < l.length) : l.take (k + 1) = l.take k ++ [l[k]] := by
  rw [List.take_succ_eq_append_getElem h]
theorem fmB_dig (s : ByteArray) (h : fmB s.data.toList = true) (a b : Nat) (hab : b ≤ 10) (hk : ∀ k, a ≤ k → k < b → k ≠ 4 ∧ k ≠ 7) : ∀ c ∈ (s.data.toList.drop a).take (b - a), dgB c = true := by
  unfold fmB at h
  rw [Bool.and_eq_true, decide_eq_true_iff] at h
  intro c hc
  obtain ⟨i, hi, rfl⟩ := List.mem_iff_getElem.1 hc
  rw [List.length_take, List.length_drop] at hi
  have := fmK_at _ h.2 (a + i) (by omega)
  unfold atB at this
  rw [if_neg (by have := hk (a + i) (by omega) (by omega); omega)] at this
  rw [List.getElem_take, List.getElem_drop]
  rwa [List.getD_eq_getElem?_getD, List.getElem?_eq_getElem (by omega)] at this
theorem quiet_of {P : Program} {f : FuncId} {args : Array Value} {w : World} {n : Nat} {v : Value}
    (h : Calls P f args (w.drewN n) fun e w' => e = .returned v ∧ w.drewN n = w') : Calls P f args (w.drewN n) fun e w'' => e = .returned v ∧ ∃ m, w'' = w.drewN m :=
  h.mono fun _ _ ⟨he, hm⟩ => ⟨he, n, hm.symm⟩
end Go.Proofs.YtgnmcjfocnnffaaDoor

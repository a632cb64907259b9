/- Joined: ObP, ObQ. -/
import Derived.Test.YtbfimfjhdbpenaaGreatDoorPl18
import Derived.Test.YtbfimfjhdbpenaaGreatDoorPl20
/- Layer 8: fixBefore, pickBefore, CheckEnv of the reference. -/
namespace Go.Proofs.YtbfimfjhdbpenaaGreatDoor
open Go Go.RowKit Go.BigFrame
theorem str_ord (a b : ByteArray) : (bl a.data.toList b.data.toList = true ∧ Op.bytesLess a.toList b.toList = true ∧ (a.toList == b.toList) = false) ∨ (a = b ∧ Op.bytesLess a.toList a.toList = false) ∨ (bl b.data.toList a.data.toList = true ∧ Op.bytesLess a.toList b.toList = false ∧ (a.toList == b.toList) = false ∧ Op.bytesLess b.toList a.toList = true) := by
  rcases str_cases a b with rfl | h
  · exact .inr (.inl ⟨rfl, by rw [Lib.toList_data]; exact bl_irrefl _⟩)
  · rw [Lib.toList_data, Lib.toList_data] at *
    cases h1 : Op.bytesLess a.data.toList b.data.toList
    · cases h2 : Op.bytesLess b.data.toList a.data.toList
      · exfalso
        have := bl_total h1 h2
        rw [this] at h
        simp at h
      · exact .inr (.inr ⟨h2, rfl, h, rfl⟩)
    · exact .inl ⟨h1, rfl, h⟩
end Go.Proofs.YtbfimfjhdbpenaaGreatDoor
/- Layer 8: CheckEnv of the reference. -/
namespace Go.Proofs.YtbfimfjhdbpenaaGreatDoor
open Go Go.RowKit Go.BigFrame
def envE (fs : List Fx) (cs : List Cx) : Int := if 1000 < fs.length ∨ 1000 < cs.length then 4 else if ordB Fx.key Fx.ok fs && ordB Cx.key Cx.ok cs then 0 else 8
theorem calls_bel {P : Program} {f : FuncId} {args : Array Value} {w : World} {v : Value} (h : Calls P f args w fun e w' => e = .returned v ∧ w = w') : Calls P f args w fun e w' => e = .returned v ∧ Below w.heap.size w w' :=
  h.mono fun _ _ ⟨h1, h2⟩ => ⟨h1, h2 ▸ Below.refl _ _⟩
end Go.Proofs.YtbfimfjhdbpenaaGreatDoor

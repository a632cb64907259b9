/- Joined: OeF, OeJ, OsR. -/
import Derived.Test.YtbfimfjhdbpenaaGreatDoorPk24
import Derived.Test.YtbfimfjhdbpenaaGreatDoorPk25
import Derived.Test.YtbfimfjhdbpenaaGreatDoorPk23
import Derived.Test.YtbfimfjhdbpenaaGreatDoorPk22
import Derived.Deep.RegionHeld3
/- Layer 8: the law's own functions con, now, pair. -/
namespace Go.Proofs.YtbfimfjhdbpenaaGreatDoor
open Go Go.RowKit Go.BigFrame
end Go.Proofs.YtbfimfjhdbpenaaGreatDoor
/- Layer 8: a list of trees laid in an expression's box, one part at a time. -/
namespace Go.Proofs.YtbfimfjhdbpenaaGreatDoor
open Go Go.RowKit Go.BigFrame
section
variable {wq : World} {v0 v1 v2 v3 : Value} {wr wr' wy w' : World} {sv sv' : Value} {m : Nat} {Ts : List Ex}
end
end Go.Proofs.YtbfimfjhdbpenaaGreatDoor
/- Layer 8: rows that a law writes into. -/
namespace Go.Proofs.YtbfimfjhdbpenaaGreatDoor
open Go Go.RowKit Go.BigFrame
def RowW (B N : Nat) (A : Option Addr) (n : Nat) (w : World) : Prop := n = 0 ∨ ∃ g cur t, A = some ⟨g, 0, none⟩ ∧ B ≤ g ∧ g < N ∧ w.heap[g]? = some (.cells cur t (0, 0)) ∧ n ≤ cur.size
section
variable {B N : Nat} {A : Option Addr} {n : Nat} {w w' : World}
theorem RowW.below (h : RowW B N A n w) (hb : Below w.heap.size w w') : RowW B N A n w' := by
  rcases h with h | ⟨g, cur, t, h1, h2, h3, h4, h5⟩
  · exact .inl h
  · exact .inr ⟨g, cur, t, h1, h2, h3, (hb.block g (lt_of_block h4)).trans h4, h5⟩
theorem RowW.mono (h : RowW B N A n w) {B' N' : Nat} (hB : B' ≤ B) (hN : N ≤ N') : RowW B' N' A n w := by
  rcases h with h | ⟨g, cur, t, h1, h2, h3, h4, h5⟩
  · exact .inl h
  · exact .inr ⟨g, cur, t, h1, by omega, by omega, h4, h5⟩
theorem RowW.set (h : RowW B N A n w) (b o : Nat) (v : Value) : RowW B N A n (w.setCell ⟨b, o, none⟩ v) := by
  rcases h with h | ⟨g, cur, t, h1, h2, h3, h4, h5⟩
  · exact .inl h
  · by_cases e : g = b
    · subst e
      refine .inr ⟨g, cur.setIfInBounds o v, t, h1, h2, h3, ?_, by simpa using h5⟩
      exact heap_setCell_same w g o _ _ _ h4
    · exact .inr ⟨g, cur, t, h1, h2, h3, (Below.heap_setCell w ⟨b, o, none⟩ v g e).trans h4, h5⟩
theorem RowW.at (h : RowW B N A n w) {i : Nat} (hi : i < n) : ∃ g, A = some ⟨g, 0, none⟩ ∧ B ≤ g ∧ g < N ∧ (∃ u, w.cell? ⟨g, i, none⟩ = some u) ∧ w.frozen? ⟨g, i, none⟩ = false := by
  rcases h with h | ⟨g, cur, t, h1, h2, h3, h4, h5⟩
  · omega
  · exact ⟨g, h1, h2, h3, ⟨_, row_cell h4 (Array.getElem?_eq_getElem (by omega))⟩, row_frz h4⟩
theorem RowW.own {T : TypeId} {k c : Nat} {xs : List Value} (h : w.ownsRow B T k (.slice A n c) n xs) : RowW B w.heap.size A (n * k) w := by
  rcases h.2 with ⟨-, h0⟩ | ⟨g, cap, cur, hv, hb, hh, hn, -, hs, -⟩
  · exact .inl (by rw [h0, Nat.zero_mul])
  · injection hv with e1 e2 e3
    exact .inr ⟨g, cur, T, e1, hb, lt_of_block hh, hh, by rw [hs]; exact Nat.mul_le_mul_right _ hn⟩
end
end Go.Proofs.YtbfimfjhdbpenaaGreatDoor

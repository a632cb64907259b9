/- Layer 8: expressions wherever they lie (plain). -/
import Derived.Test.YtalejbabhjlehaaGreatDoorPk2
import Derived.Deep.RegionHeld
import Derived.Laws.AppendOwn
namespace Go.Proofs.YtalejbabhjlehaaGreatDoor
open Go
namespace Ex
def erF (k : Int) (r n : ByteArray) (d : Int) (l : List Ex) : Ex := .mk k r n d none 0 l
def er (t : Ex) : Ex := fold erF t
theorem er_mk (k : Int) (r n : ByteArray) (d : Int) (A : Option Addr) (c : Nat) (s : List Ex) : er (.mk k r n d A c s) = .mk k r n d none 0 (s.map er) := by unfold er; rw [fold_mk]; rfl
end Ex
mutual
def Ex.Av (g : Nat) : Ex → Prop
  | .mk _ _ _ _ A _ s => (s ≠ [] → ∀ b o, A = some ⟨b, o, none⟩ → b ≠ g) ∧ Ex.Avs g s
def Ex.Avs (g : Nat) : List Ex → Prop
  | [] => True
  | t :: l => Ex.Av g t ∧ Ex.Avs g l
end
mutual
def Ex.Fr (B : Nat) : Ex → Prop
  | .mk _ _ _ _ A _ s => (s ≠ [] → ∀ b o, A = some ⟨b, o, none⟩ → B ≤ b) ∧ Ex.Frs B s
def Ex.Frs (B : Nat) : List Ex → Prop
  | [] => True
  | t :: l => Ex.Fr B t ∧ Ex.Frs B l
end
end Go.Proofs.YtalejbabhjlehaaGreatDoor

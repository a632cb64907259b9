/- Layer 8: expressions wherever they lie (plain). -/
import Derived.Test.YtbfimfjhdbpenaaGreatDoorPk2
import Derived.Deep.RegionHeld
import Derived.Laws.AppendOwn
namespace Go.Proofs.YtbfimfjhdbpenaaGreatDoor
open Go
namespace Ex
end Ex
mutual
def Ex.Av (g : Nat) : Ex → Prop
  | .mk _ _ _ _ A _ s => (s ≠ [] → ∀ b o, A = some ⟨b, o, none⟩ → b ≠ g) ∧ Ex.Avs g s
def Ex.Avs (g : Nat) : List Ex → Prop
  | [] => True
  | t :: l => Ex.Av g t ∧ Ex.Avs g l
end
mutual
def Ex.Fr (B : Nat) : Ex → Prop
  | .mk _ _ _ _ A _ s => (s ≠ [] → ∀ b o, A = some ⟨b, o, none⟩ → B ≤ b) ∧ Ex.Frs B s
def Ex.Frs (B : Nat) : List Ex → Prop
  | [] => True
  | t :: l => Ex.Fr B t ∧ Ex.Frs B l
end
end Go.Proofs.YtbfimfjhdbpenaaGreatDoor

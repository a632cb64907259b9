/- Layer 8: the program's Check: what is counted. -/
import Derived.Test.YtbfimfjhdbpenaaGreatDoorPk2
import Derived.Deep.RegionHeld3
namespace Go.Proofs.YtbfimfjhdbpenaaGreatDoor
open Go Go.RowKit
mutual
def Ex.Lo (p : Nat) : Ex → Prop
  | .mk _ _ _ _ A _ s => (∀ b o, A = some ⟨b, o, none⟩ → s ≠ [] → b < p) ∧ Ex.Los p s
def Ex.Los (p : Nat) : List Ex → Prop
  | [] => True
  | t :: l => Ex.Lo p t ∧ Ex.Los p l
end
end Go.Proofs.YtbfimfjhdbpenaaGreatDoor

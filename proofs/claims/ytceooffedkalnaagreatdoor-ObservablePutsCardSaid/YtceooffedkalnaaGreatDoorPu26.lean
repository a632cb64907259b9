/- Layer 8: expressions wherever they lie (plain). -/
import Derived.Test.YtceooffedkalnaaGreatDoorPu2
import Derived.Deep.RegionHeld
import Derived.Laws.AppendOwn
namespace Go.Proofs.YtceooffedkalnaaGreatDoor
open Go
namespace Ex
def erF (k : Int) (r n : ByteArray) (d : Int) (l : List Ex) : Ex := .mk k r n d none 0 l
def er (t : Ex) : Ex := fold erF t
theorem er_mk (k : Int) (r n : ByteArray) (d : Int) (A : Option Addr) (c : Nat) (s : List Ex) : er (.mk k r n d A c s) = .mk k r n d none 0 (s.map er) := by unfold er; rw [fold_mk]; rfl
theorem er_eq {k k' : Int} {r r' n n' : ByteArray} {d d' : Int} {A A' : Option Addr} {c c' : Nat} {s s' : List Ex} : er (.mk k r n d A c s) = er (.mk k' r' n' d' A' c' s') ↔ k = k' ∧ r = r' ∧ n = n' ∧ d = d' ∧ s.map er = s'.map er := by
  rw [er_mk, er_mk, Ex.mk.injEq]
  constructor
  · rintro ⟨a, b, c, d, -, -, e⟩; exact ⟨a, b, c, d, e⟩
  · rintro ⟨a, b, c, d, e⟩; exact ⟨a, b, c, d, rfl, rfl, e⟩
theorem fold_er {α : Type} (f : Int → ByteArray → ByteArray → Int → List α → α) (t : Ex) : fold f t.er = fold f t := by
  induction t using Ex.ind with
  | h k r n d A c s ih =>
    rw [er_mk, fold_mk, fold_mk, List.map_map]
    congr 1
    exact List.map_congr_left fun t ht => ih t ht
theorem fold_same {α : Type} (f : Int → ByteArray → ByteArray → Int → List α → α) {t u : Ex} (h : t.er = u.er) : fold f t = fold f u := by rw [← fold_er f t, ← fold_er f u, h]
end Ex
mutual
def Ex.Av (g : Nat) : Ex → Prop
  | .mk _ _ _ _ A _ s => (∀ b o, A = some ⟨b, o, none⟩ → b ≠ g) ∧ Ex.Avs g s
def Ex.Avs (g : Nat) : List Ex → Prop
  | [] => True
  | t :: l => Ex.Av g t ∧ Ex.Avs g l
end
mutual
def Ex.Fr (B : Nat) : Ex → Prop
  | .mk _ _ _ _ A _ s => (∀ b o, A = some ⟨b, o, none⟩ → B ≤ b) ∧ Ex.Frs B s
def Ex.Frs (B : Nat) : List Ex → Prop
  | [] => True
  | t :: l => Ex.Fr B t ∧ Ex.Frs B l
end
end Go.Proofs.YtceooffedkalnaaGreatDoor

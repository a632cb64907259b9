/- Layer 8: expressions wherever they lie (plain). -/
import Derived.Test.YtbfimfjhdbpenaaGreatDoorPl2
import Derived.Deep.RegionHeld
import Derived.Laws.AppendOwn
namespace Go.Proofs.YtbfimfjhdbpenaaGreatDoor
open Go
namespace Ex
def erF (k : Int) (r n : ByteArray) (d : Int) (l : List Ex) : Ex := .mk k r n d none 0 l
def er (t : Ex) : Ex := fold erF t
theorem er_mk (k : Int) (r n : ByteArray) (d : Int) (A : Option Addr) (c : Nat) (s : List Ex) : er (.mk k r n d A c s) = .mk k r n d none 0 (s.map er) := by unfold er; rw [fold_mk]; rfl
theorem er_eq {k k' : Int} {r r' n n' : ByteArray} {d d' : Int} {A A' : Option Addr} {c c' : Nat} {s s' : List Ex} : er (.mk k r n d A c s) = er (.mk k' r' n' d' A' c' s') ↔ k = k' ∧ r = r' ∧ n = n' ∧ d = d' ∧ s.map er = s'.map er := by
  rw [er_mk, er_mk, Ex.mk.injEq]
  constructor
  · rintro ⟨a, b, c, d, -, -, e⟩; exact ⟨a, b, c, d, e⟩
  · rintro ⟨a, b, c, d, e⟩; exact ⟨a, b, c, d, rfl, rfl, e⟩
theorem fold_er {α : Type} (f : Int → ByteArray → ByteArray → Int → List α → α) (t : Ex) : fold f t.er = fold f t := by
  induction t using Ex.ind with
  | h k r n d A c s ih =>
    rw [er_mk, fold_mk, fold_mk, List.map_map]
    congr 1
    exact List.map_congr_left fun t ht => ih t ht
theorem fold_same {α : Type} (f : Int → ByteArray → ByteArray → Int → List α → α) {t u : Ex} (h : t.er = u.er) : fold f t = fold f u := by rw [← fold_er f t, ← fold_er f u, h]
end Ex
mutual
def Ex.Av (g : Nat) : Ex → Prop
  | .mk _ _ _ _ A _ s => (s ≠ [] → ∀ b o, A = some ⟨b, o, none⟩ → b ≠ g) ∧ Ex.Avs g s
def Ex.Avs (g : Nat) : List Ex → Prop
  | [] => True
  | t :: l => Ex.Av g t ∧ Ex.Avs g l
end
mutual
def Ex.Fr (B : Nat) : Ex → Prop
  | .mk _ _ _ _ A _ s => (s ≠ [] → ∀ b o, A = some ⟨b, o, none⟩ → B ≤ b) ∧ Ex.Frs B s
def Ex.Frs (B : Nat) : List Ex → Prop
  | [] => True
  | t :: l => Ex.Fr B t ∧ Ex.Frs B l
end
theorem Ex.avs_iff (g : Nat) (l : List Ex) : Ex.Avs g l ↔ ∀ t ∈ l, Ex.Av g t := by
  induction l with
  | nil => simp [Ex.Avs]
  | cons t l ih => rw [Ex.Avs, ih]; simp
theorem Ex.frs_iff (B : Nat) (l : List Ex) : Ex.Frs B l ↔ ∀ t ∈ l, Ex.Fr B t := by
  induction l with
  | nil => simp [Ex.Frs]
  | cons t l ih => rw [Ex.Frs, ih]; simp
theorem Ex.av_mk (g : Nat) (k : Int) (r n : ByteArray) (d : Int) (A : Option Addr) (c : Nat) (s : List Ex) : Ex.Av g (.mk k r n d A c s) ↔ (s ≠ [] → ∀ b o, A = some ⟨b, o, none⟩ → b ≠ g) ∧ ∀ t ∈ s, Ex.Av g t := by rw [Ex.Av, Ex.avs_iff]
theorem Ex.fr_mk (B : Nat) (k : Int) (r n : ByteArray) (d : Int) (A : Option Addr) (c : Nat) (s : List Ex) : Ex.Fr B (.mk k r n d A c s) ↔ (s ≠ [] → ∀ b o, A = some ⟨b, o, none⟩ → B ≤ b) ∧ ∀ t ∈ s, Ex.Fr B t := by rw [Ex.Fr, Ex.frs_iff]
theorem Ex.Fr.av {B g : Nat} (h : g < B) {t : Ex} (ht : t.Fr B) : t.Av g := by
  induction t using Ex.ind with
  | h k r n d A c s ih =>
    rw [Ex.av_mk]
    rw [Ex.fr_mk] at ht
    exact ⟨fun hs b o e => by have := ht.1 hs b o e; omega, fun t hm => ih t hm (ht.2 t hm)⟩
theorem Ex.Fr.mono {B B' : Nat} (h : B' ≤ B) {t : Ex} (ht : t.Fr B) : t.Fr B' := by
  induction t using Ex.ind with
  | h k r n d A c s ih =>
    rw [Ex.fr_mk] at ht ⊢
    exact ⟨fun hs b o e => Nat.le_trans h (ht.1 hs b o e), fun t hm => ih t hm (ht.2 t hm)⟩
theorem ne_of_lt_len {α : Type} {s : List α} {j : Nat} (h : j < s.length) : s ≠ [] := fun e => by subst e; simp at h
theorem RowC.grown {w w' : World} {row : Option Nat} {A : Option Addr} {k i : Nat} {cs : List Value} (h : RowC w A k i cs) (hb : w.grownBy w' row) (ha : ∀ g, row = some g → ∀ b o, A = some ⟨b, o, none⟩ → b ≠ g) : RowC w' A k i cs := by
  obtain ⟨b, o, h1, h2, h3⟩ := h
  have he := hb.block b h2 (fun e => ha b e.symm b o h1 rfl)
  refine ⟨b, o, h1, Nat.lt_of_lt_of_le h2 hb.size, fun j v hv => ?_⟩
  exact (World.cell?_of_block he).trans (h3 j v hv)
theorem Ex.In.grown {w w' : World} {row : Option Nat} (hb : w.grownBy w' row) {t : Ex} (ht : t.In w) (ha : ∀ g, row = some g → t.Av g) : t.In w' := by
  induction t using Ex.ind with
  | h k r n d A c s ih =>
    rw [Ex.in_mk] at ht ⊢
    exact ⟨ht.1, fun j hj => ⟨(ht.2 j hj).1.grown hb (fun g e => ((Ex.av_mk ..).1 (ha g e)).1 (ne_of_lt_len hj)), ih _ (List.getElem_mem hj) (ht.2 j hj).2 (fun g e => ((Ex.av_mk ..).1 (ha g e)).2 _ (List.getElem_mem hj))⟩⟩
theorem Ex.In.av {w : World} {g : Nat} (hg : w.heap.size ≤ g) {t : Ex} (ht : t.In w) : t.Av g := by
  induction t using Ex.ind with
  | h k r n d A c s ih =>
    rw [Ex.in_mk] at ht
    rw [Ex.av_mk]
    refine ⟨fun hs b o e => ?_, fun t hm => ?_⟩
    · obtain ⟨b', o', h1, h2, -⟩ := (ht.2 0 (List.length_pos_iff.2 hs)).1
      rw [e] at h1
      injection h1 with h1
      injection h1 with h1 _ _
      omega
    · obtain ⟨j, hj, rfl⟩ := List.getElem_of_mem hm
      exact ih _ hm (ht.2 j hj).2
theorem RowC.set {w : World} {A : Option Addr} {k i : Nat} {cs : List Value} (h : RowC w A k i cs) (p : Addr) (u : Value) (ha : ∀ b o, A = some ⟨b, o, none⟩ → b ≠ p.block) : RowC (w.setCell p u) A k i cs := by
  obtain ⟨b, o, h1, h2, h3⟩ := h
  exact ⟨b, o, h1, by rw [World.size_setCell]; exact h2, fun j v hv => (World.cell?_setCell_far w p _ u (fun e => ha b o h1 e.symm)).trans (h3 j v hv)⟩
theorem Ex.In.set {w : World} (p : Addr) (u : Value) {t : Ex} (ht : t.In w) (ha : t.Av p.block) : t.In (w.setCell p u) := by
  induction t using Ex.ind with
  | h k r n d A c s ih =>
    rw [Ex.in_mk] at ht ⊢
    rw [Ex.av_mk] at ha
    exact ⟨ht.1, fun j hj => ⟨(ht.2 j hj).1.set p u (ha.1 (ne_of_lt_len hj)), ih _ (List.getElem_mem hj) (ht.2 j hj).2 (ha.2 _ (List.getElem_mem hj))⟩⟩
end Go.Proofs.YtbfimfjhdbpenaaGreatDoor

/- The walks of layer 2: Sum. -/
import Derived.Test.YtalnfbgaiegicaaGreatDoorRatAf
import Derived.OwnWalk
import Derived.Laws.OwnMore
namespace Go.Proofs.YtalnfbgaiegicaaGreatDoor
open Go Go.RowKit
theorem Tryz.infoF' : (Tryz.prog.info? 87).map (fun i => (i.zero, i.size, i.bytes)) = some (some (.agg #[.string ⟨#[]⟩, .string ⟨#[]⟩]), 2, 32) := by kernel_rfl
/-- A row of parsed fractions, as far as it goes. -/
def RowP (qs : List Rat) (xs : List Value) : Prop := ∀ j q, qs[j]? = some q → xs[j * 2]? = some (.string (rep q.num)) ∧ xs[j * 2 + 1]? = some (.string (rep (q.den : Int)))
theorem RowP.step {qs : List Rat} {xs : List Value} {q : Rat} (h : RowP qs xs) (hl : qs.length * 2 + 1 < xs.length) : RowP (qs ++ [q]) ((xs.set (qs.length * 2) (.string (rep q.num))).set (qs.length * 2 + 1) (.string (rep (q.den : Int)))) := by
  intro j x hx
  rw [List.getElem?_append] at hx
  split at hx
  · next g =>
    obtain ⟨h1, h2⟩ := h j x hx
    rw [List.getElem?_set_ne (by omega), List.getElem?_set_ne (by omega), List.getElem?_set_ne (by omega), List.getElem?_set_ne (by omega)]
    exact ⟨h1, h2⟩
  · next g =>
    have hj : j = qs.length := by
      rcases Nat.lt_or_ge (j - qs.length) 1 with g2 | g2
      · omega
      · rw [List.getElem?_eq_none (by simpa using g2)] at hx; cases hx
    subst hj
    rw [Nat.sub_self] at hx
    obtain rfl : q = x := by simpa using hx
    rw [List.getElem?_set_ne (by omega), List.getElem?_set_self (by omega), List.getElem?_set_self (by rw [List.length_set]; omega)]
    exact ⟨rfl, rfl⟩
theorem own_below {w w' : World} {base e size g n cap : Nat} {xs : List Value} (h : w.ownsRow base e size (.slice (some ⟨g, 0, none⟩) n cap) n xs) (b : Below w.heap.size w w') : w'.ownsRow base e size (.slice (some ⟨g, 0, none⟩) n cap) n xs := by
  refine ⟨h.1, ?_⟩
  rcases h.2 with ⟨hv, _⟩ | ⟨g2, cap2, cur, hv, h1, h2, h3, h4, h5, h6⟩
  · cases hv
  · exact .inr ⟨g2, cap2, cur, hv, h1, (b.block _ (lt_of_block h2)).trans h2, h3, h4, h5, h6⟩
theorem own_st {w : World} {base e size g n cap : Nat} {xs : List Value} (h : w.ownsRow base e size (.slice (some ⟨g, 0, none⟩) n cap) n xs) (j : Nat) (u : Value) :
    (w.setCell ⟨g, j, none⟩ u).ownsRow base e size (.slice (some ⟨g, 0, none⟩) n cap) n (xs.set j u) := (h.stored j u).1
theorem own_heap {w w' : World} {base e size g n cap : Nat} {xs : List Value} (h : w.ownsRow base e size (.slice (some ⟨g, 0, none⟩) n cap) n xs) (b : w'.heap[g]? = w.heap[g]?) : w'.ownsRow base e size (.slice (some ⟨g, 0, none⟩) n cap) n xs := by
  refine ⟨h.1, ?_⟩
  rcases h.2 with ⟨hv, _⟩ | ⟨g2, cap2, cur, hv, h1, h2, h3, h4, h5, h6⟩
  · cases hv
  · have e : g2 = g := by simp at hv; exact hv.1.symm
    subst e
    exact .inr ⟨g2, cap2, cur, hv, h1, b.trans h2, h3, h4, h5, h6⟩
theorem sc2_other {w : World} {r q : Nat} {v1 v2 : Value} (hne : q ≠ r) : ((w.setCell ⟨q, 0, none⟩ v1).setCell ⟨q, 1, none⟩ v2).heap[r]? = w.heap[r]? := by
  simp only [World.setCell, Array.getElem?_modify, if_neg hne]
theorem sc2_row {w : World} {q : Nat} {a b v1 v2 : Value} {t : TypeId} (h : w.heap[q]? = some (.cells #[a, b] t (0, 0))) : ((w.setCell ⟨q, 0, none⟩ v1).setCell ⟨q, 1, none⟩ v2).heap[q]? = some (.cells #[v1, v2] t (0, 0)) := by
  simp [World.setCell, Array.getElem?_modify, h]
theorem alloc_old {w : World} {r : Nat} {o : Obj} (h : r < w.heap.size) : (w.alloc o).heap[r]? = w.heap[r]? := by
  show (w.heap.push o)[r]? = _
  rw [Array.getElem?_push, if_neg (by omega)]
theorem zero_row : rep (Rat.num 0) = ⟨#[48]⟩ ∧ rep ((Rat.den 0 : Nat) : Int) = ⟨#[49]⟩ := by decide +kernel
/-- The sums, one after the other, and the first error. -/
def sumS (t : Rat) : List Rat → Rat × Int
  | [] => (t, 0)
  | q :: r => if addC t q = 0 then sumS (t + q) r else (t, addC t q)
/-- The first of the texts that is wrong. -/
def fstBad : List ByteArray → Int
  | [] => 0
  | s :: r => if chkR s.data.toList = 0 then fstBad r else chkR s.data.toList
theorem fstBad_at : ∀ (ss : List ByteArray) (k : Nat) (h : k < ss.length), ¬ chkR ss[k].data.toList = 0 → (∀ j (hj : j < k), chkR ss[j].data.toList = 0) → fstBad ss = chkR ss[k].data.toList
  | s :: r, 0, _, hb, _ => by unfold fstBad; exact if_neg hb
  | s :: r, k + 1, h, hb, ha => by
    unfold fstBad
    refine (if_pos (ha 0 (by omega))).trans ?_
    exact fstBad_at r k (by simpa using h) hb (fun j hj => ha (j + 1) (by omega))
theorem fstBad_ok : ∀ (qs : List Rat), (∀ q ∈ qs, Sml q) → fstBad (qs.map rq) = 0
  | [], _ => rfl
  | q :: r, h => by
    rw [List.map_cons]
    unfold fstBad
    rw [if_pos (rq_chk (h q (by simp)))]
    exact fstBad_ok r (fun x hx => h x (by simp [hx]))
theorem qv_map (qs : List Rat) : (qs.map rq).map (fun s => qv s.data.toList) = qs := by
  rw [List.map_map]
  conv => rhs; rw [← List.map_id qs]
  exact List.map_congr_left fun q _ => qv_rq q
/-- Sum's error and text. -/
def sumC (ss : List ByteArray) : Int := if 1000 < ss.length then 4 else if fstBad ss = 0 then (sumS 0 (ss.map fun s => qv s.data.toList)).2 else fstBad ss
def sumT (ss : List ByteArray) : ByteArray := if sumC ss = 0 then rq (sumS 0 (ss.map fun s => qv s.data.toList)).1 else ⟨#[]⟩
end Go.Proofs.YtalnfbgaiegicaaGreatDoor

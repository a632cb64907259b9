/- Layer 7, plain: the best of those not yet chosen; what Split answers. -/
import Derived.Test.YtalnfbgaiegicaaMoM
import Derived.Test.YtalnfbgaiegicaaMoN
namespace Go.Proofs.Ytalnfbgaiegicaa
open Go

/-- The first of the greatest among the first i. -/
def BestK (rs : Nat → Int) (b i : Nat) : Prop := b < i ∧ ∀ j, j < i → j ≠ b → rs j < rs b ∨ rs j = rs b ∧ b < j
theorem BestK.start (rs : Nat → Int) : BestK rs 0 1 := ⟨by omega, fun j h1 h2 => by omega⟩
theorem BestK.take {rs : Nat → Int} {b i : Nat} (h : BestK rs b i) (hlt : rs b < rs i) : BestK rs i (i + 1) := by
  refine ⟨by omega, fun j h1 h2 => ?_⟩
  rcases Nat.lt_or_ge j i with g | g
  · by_cases e : j = b
    · subst e; exact .inl hlt
    · have := h.2 j g e; omega
  · omega
theorem BestK.keep {rs : Nat → Int} {b i : Nat} (h : BestK rs b i) (hle : ¬ rs b < rs i) : BestK rs b (i + 1) := by
  refine ⟨by have := h.1; omega, fun j h1 h2 => ?_⟩
  rcases Nat.lt_or_ge j i with g | g
  · exact h.2 j g h2
  · obtain rfl : j = i := by omega
    have := h.1
    omega
section
variable {size W : Int} {w : Nat → Int} {n : Nat}
/-- The remainders as the reference keeps them: -1 where a unit has been given. -/
def rsP (size W : Int) (w : Nat → Int) (C : Nat → Bool) (i : Nat) : Int := if C i then -1 else reP size W w i
theorem best_free {C : Nat → Bool} (hW : 0 < W) (hc : cnF C n < n) {b : Nat} (h : BestK (rsP size W w C) b n) : C b = false ∧ ∀ j, j < n → C j = false → j ≠ b → btP size W w b j := by
  have hb : C b = false := by
    cases hcb : C b
    · rfl
    · obtain ⟨i, hi, hci⟩ := cnF_some hc
      have hne : i ≠ b := by intro e; subst e; rw [hcb] at hci; cases hci
      have h1 := h.2 i hi hne
      have h2 := (re_bd (size := size) (w := w) hW i).1
      unfold rsP at h1
      rw [hcb, hci] at h1
      simp at h1
      omega
  refine ⟨hb, fun j hj hcj hne => ?_⟩
  have h1 := h.2 j hj hne
  unfold rsP at h1
  rw [hb, hcj] at h1
  simp at h1
  unfold btP
  exact h1
end
/-- The weights as numbers; what Split refuses. -/
def wgt (ws : List Int) (i : Nat) : Int := ws.getD i 0
def wgB (x : Int) : Bool := decide (0 ≤ x) && decide (x ≤ 4000)
def wgS (ws : List Int) : Int := smF (wgt ws) ws.length
def spE (t : Int) (ws : List Int) : Int := if amB t && decide (1 ≤ ws.length) && decide (ws.length ≤ 100) && ws.all wgB && decide (wgS ws ≠ 0) then 0 else 2
def spL (t : Int) (ws : List Int) (C : Nat → Bool) : List Int := (List.range ws.length).map (shP t (wgS ws) (wgt ws) C)
theorem spL_len (t : Int) (ws : List Int) (C : Nat → Bool) : (spL t ws C).length = ws.length := by unfold spL; simp
theorem spL_get (t : Int) (ws : List Int) (C : Nat → Bool) {i : Nat} (h : i < ws.length) : (spL t ws C).getD i 0 = shP t (wgS ws) (wgt ws) C i := by
  unfold spL; rw [List.getD_eq_getElem?_getD, List.getElem?_map, List.getElem?_range h]; rfl
theorem sp_parts {t : Int} {ws : List Int} (h : spE t ws = 0) : (-1125899906842624 ≤ t ∧ t ≤ 1125899906842624) ∧ 1 ≤ ws.length ∧ ws.length ≤ 100 ∧ (∀ i, i < ws.length → 0 ≤ wgt ws i ∧ wgt ws i ≤ 4000) ∧ 0 < wgS ws := by
  unfold spE at h
  split at h
  · next g =>
    rw [Bool.and_eq_true, Bool.and_eq_true, Bool.and_eq_true, Bool.and_eq_true, decide_eq_true_eq, decide_eq_true_eq, decide_eq_true_eq] at g
    obtain ⟨⟨⟨⟨g1, g2⟩, g3⟩, g4⟩, g5⟩ := g
    have hw : ∀ i, i < ws.length → 0 ≤ wgt ws i ∧ wgt ws i ≤ 4000 := fun i hi => by
      have := List.all_eq_true.1 g4 (ws.getD i 0) (by rw [List.getD_eq_getElem?_getD, List.getElem?_eq_getElem hi]; exact List.getElem_mem hi)
      unfold wgB at this
      rw [Bool.and_eq_true, decide_eq_true_eq, decide_eq_true_eq] at this
      exact this
    have h0 : 0 ≤ wgS ws := smF_nonneg (fun i hi => (hw i hi).1)
    exact ⟨(amB_iff t).1 g1, g2, g3, hw, by omega⟩
  · cases h
/-- Two choices give the same parts. -/
theorem spL_uniq {t : Int} {ws : List Int} {C D : Nat → Bool} (hC : Chs (sizI t) (wgS ws) (wgt ws) ws.length C) (hD : Chs (sizI t) (wgS ws) (wgt ws) ws.length D) : spL t ws C = spL t ws D := by
  unfold spL
  refine List.map_congr_left fun i hi => ?_
  have := Chs.uniq _ _ _ _ hC hD i (List.mem_range.1 hi)
  unfold shP ptP
  rw [this]
end Go.Proofs.Ytalnfbgaiegicaa

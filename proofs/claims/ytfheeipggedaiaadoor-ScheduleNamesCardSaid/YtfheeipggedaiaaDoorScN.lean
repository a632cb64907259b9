/- Layer 6, plain: lists of dates. -/
import Derived.Test.YtfheeipggedaiaaDoorScM
namespace Go.Proofs.YtfheeipggedaiaaDoor
open Go Go.RowKit

/-- The i-th date: the start, n regular days (from the end backward if bk is true), the end. -/
def dtI (bk : Bool) (f : Nat → Int) (n : Nat) (st en : Int) (i : Nat) : Int := if i = 0 then st else if i ≤ n then f (if bk then n + 1 - i else i) else en
def dtP (bk : Bool) (f : Nat → Int) (n : Nat) (st en : Int) (k : Nat) : List Int := (List.range k).map (dtI bk f n st en)
def dtL (bk : Bool) (f : Nat → Int) (n : Nat) (st en : Int) : List Int := dtP bk f n st en (n + 2)
theorem dtP_succ (bk : Bool) (f : Nat → Int) (n : Nat) (st en : Int) (k : Nat) : dtP bk f n st en (k + 1) = dtP bk f n st en k ++ [dtI bk f n st en k] := by
  unfold dtP; rw [List.range_succ, List.map_append]; rfl
theorem dtP_len (bk : Bool) (f : Nat → Int) (n : Nat) (st en : Int) (k : Nat) : (dtP bk f n st en k).length = k := by unfold dtP; simp
theorem dtL_len (bk : Bool) (f : Nat → Int) (n : Nat) (st en : Int) : (dtL bk f n st en).length = n + 2 := dtP_len _ _ _ _ _ _
theorem dtL_get (bk : Bool) (f : Nat → Int) (n : Nat) (st en : Int) {i : Nat} (h : i < n + 2) : (dtL bk f n st en).getD i 0 = dtI bk f n st en i := by
  unfold dtL dtP
  rw [List.getD_eq_getElem?_getD, List.getElem?_map, List.getElem?_range h]
  rfl
theorem dtI_zero (bk : Bool) (f : Nat → Int) (n : Nat) (st en : Int) : dtI bk f n st en 0 = st := if_pos rfl
theorem dtI_end (bk : Bool) (f : Nat → Int) (n : Nat) (st en : Int) : dtI bk f n st en (n + 1) = en := by unfold dtI; rw [if_neg (by omega), if_neg (by omega)]
theorem dtI_mid (bk : Bool) (f : Nat → Int) (n : Nat) (st en : Int) {i : Nat} (h0 : 0 < i) (h : i ≤ n) : dtI bk f n st en i = f (if bk then n + 1 - i else i) := by unfold dtI; rw [if_neg (by omega), if_pos h]
/-- Regular days lie between start and end, in the order of counting. -/
structure RegD (bk : Bool) (f : Nat → Int) (n : Nat) (st en : Int) : Prop where
  se : st < en
  bd : ∀ k, 0 < k → k ≤ n → st < f k ∧ f k < en
  up : bk = false → ∀ j k, 0 < j → j < k → k ≤ n → f j < f k
  dn : bk = true → ∀ j k, 0 < j → j < k → k ≤ n → f k < f j
theorem RegD.le {bk : Bool} {f : Nat → Int} {n m : Nat} {st en : Int} (h : RegD bk f n st en) (hm : m ≤ n) : RegD bk f m st en :=
  ⟨h.se, fun k a b => h.bd k a (by omega), fun e j k a b c => h.up e j k a b (by omega), fun e j k a b c => h.dn e j k a b (by omega)⟩
/-- Dates increase. -/
theorem RegD.lt {bk : Bool} {f : Nat → Int} {n : Nat} {st en : Int} (h : RegD bk f n st en) {i : Nat} (hi : i ≤ n) : dtI bk f n st en i < dtI bk f n st en (i + 1) := by
  rcases Nat.eq_zero_or_pos i with rfl | h0
  · rw [dtI_zero]
    rcases Nat.eq_zero_or_pos n with rfl | hn
    · rw [dtI_end]; exact h.se
    · rw [dtI_mid _ _ _ _ _ (by omega) (by omega)]
      exact (h.bd _ (by split <;> omega) (by split <;> omega)).1
  · rw [dtI_mid _ _ _ _ _ h0 hi]
    rcases Nat.eq_or_lt_of_le hi with rfl | hl
    · rw [dtI_end]
      exact (h.bd _ (by split <;> omega) (by split <;> omega)).2
    · rw [dtI_mid _ _ _ _ _ (by omega) hl]
      cases bk
      · exact h.up rfl _ _ h0 (by simp) (by simp; omega)
      · exact h.dn rfl _ _ (by simp; omega) (by simp; omega) (by simp; omega)
theorem RegD.mono {bk : Bool} {f : Nat → Int} {n : Nat} {st en : Int} (h : RegD bk f n st en) {i j : Nat} (hij : i < j) (hj : j ≤ n + 1) : dtI bk f n st en i < dtI bk f n st en j := by
  obtain ⟨d, rfl⟩ : ∃ d, j = i + 1 + d := ⟨j - i - 1, by omega⟩
  clear hij
  induction d with
  | zero => exact h.lt (by omega)
  | succ d ih =>
    have h1 := ih (by omega)
    have h2 := h.lt (i := i + 1 + d) (by omega)
    have e : i + 1 + (d + 1) = i + 1 + d + 1 := by omega
    rw [e]; omega
theorem RegD.in_all {bk : Bool} {f : Nat → Int} {n : Nat} {st en : Int} (h : RegD bk f n st en) {i : Nat} (hi : i ≤ n + 1) : st ≤ dtI bk f n st en i ∧ dtI bk f n st en i ≤ en := by
  constructor
  · rcases Nat.eq_zero_or_pos i with rfl | h0
    · rw [dtI_zero]; exact Int.le_refl _
    · have := h.mono h0 hi; rw [dtI_zero] at this; omega
  · rcases Nat.eq_or_lt_of_le hi with rfl | hl
    · rw [dtI_end]; exact Int.le_refl _
    · have := h.mono (i := i) (j := n + 1) hl (by omega); rw [dtI_end] at this; omega
/-- The period of a day: the least i whose next date is after the day. -/
def fiI (d : Nat → Int) (n : Nat) (day : Int) : Nat → Nat → Option Nat
  | 0, _ => none
  | k + 1, i => if d i ≤ day ∧ day < d (i + 1) then some i else fiI d n day k (i + 1)
theorem fiI_some {d : Nat → Int} {n : Nat} {day : Int} (k : Nat) : ∀ {i r : Nat}, fiI d n day k i = some r → i ≤ r ∧ r < i + k ∧ d r ≤ day ∧ day < d (r + 1) := by
  induction k with
  | zero => intro i r h; cases h
  | succ k ih =>
    intro i r h
    unfold fiI at h
    split at h
    · next g => injection h with h; subst h; exact ⟨Nat.le_refl _, by omega, g⟩
    · have := ih h; exact ⟨by omega, by omega, this.2.2⟩
theorem fiI_none {d : Nat → Int} {n : Nat} {day : Int} (k : Nat) : ∀ {i : Nat}, fiI d n day k i = none → ∀ j, i ≤ j → j < i + k → ¬ (d j ≤ day ∧ day < d (j + 1)) := by
  induction k with
  | zero => intro i _ j h1 h2; omega
  | succ k ih =>
    intro i h j h1 h2
    unfold fiI at h
    split at h
    · cases h
    · next g =>
      rcases Nat.eq_or_lt_of_le h1 with rfl | hl
      · exact g
      · exact ih h j hl (by omega)
/-- A day from the start on and before the end has a period. -/
theorem dt_find (bk : Bool) (f : Nat → Int) (n : Nat) (st en : Int) {day : Int} (h0 : st ≤ day) (h1 : day < en) : ∃ i, i ≤ n ∧ dtI bk f n st en i ≤ day ∧ day < dtI bk f n st en (i + 1) := by
  have key : ∀ m : Nat, m ≤ n → day < dtI bk f n st en (m + 1) → ∃ i, i ≤ n ∧ dtI bk f n st en i ≤ day ∧ day < dtI bk f n st en (i + 1) := by
    intro m
    induction m with
    | zero => intro hm hd; exact ⟨0, by omega, by rw [dtI_zero]; exact h0, hd⟩
    | succ m ih =>
      intro hm hd
      rcases Int.lt_or_le day (dtI bk f n st en (m + 1)) with g | g
      · exact ih (by omega) g
      · exact ⟨m + 1, hm, g, hd⟩
  exact key n (Nat.le_refl _) (by rw [dtI_end]; exact h1)
/-- Only one period holds a day. -/
theorem RegD.one {bk : Bool} {f : Nat → Int} {n : Nat} {st en : Int} (h : RegD bk f n st en) {day : Int} {i j : Nat} (hi : i ≤ n) (hj : j ≤ n) (h1 : dtI bk f n st en i ≤ day ∧ day < dtI bk f n st en (i + 1)) (h2 : dtI bk f n st en j ≤ day ∧ day < dtI bk f n st en (j + 1)) : i = j := by
  rcases Nat.lt_trichotomy i j with g | g | g
  · rcases Nat.eq_or_lt_of_le (show i + 1 ≤ j from g) with e | e
    · rw [e] at h1; omega
    · have := h.mono e (by omega); omega
  · exact g
  · rcases Nat.eq_or_lt_of_le (show j + 1 ≤ i from g) with e | e
    · rw [e] at h2; omega
    · have := h.mono e (by omega); omega
/-- A long stub: one date less. -/
theorem dtL_long (bk : Bool) (f : Nat → Int) (n : Nat) (st en : Int) : dtL bk f n st en = (dtL bk f (n + 1) st en).eraseIdx (if bk then 1 else n + 1) := by
  apply List.ext_getElem?
  intro i
  have hl := dtL_len bk f n st en
  have hl2 := dtL_len bk f (n + 1) st en
  have g : ∀ (m j : Nat), (dtL bk f m st en)[j]? = if j < m + 2 then some (dtI bk f m st en j) else none := by
    intro m j
    unfold dtL dtP
    rw [List.getElem?_map]
    split
    · next h => rw [List.getElem?_range h]; rfl
    · next h => rw [List.getElem?_eq_none (by simp; omega)]; rfl
  rw [List.getElem?_eraseIdx, g, g, g]
  have hc : i = 0 ∨ (0 < i ∧ i ≤ n) ∨ i = n + 1 ∨ n + 2 ≤ i := by omega
  cases bk
  · simp only [Bool.false_eq_true, if_false]
    rcases hc with rfl | ⟨c1, c2⟩ | rfl | c
    · rw [if_pos (by omega), if_pos (by omega), if_pos (by omega), dtI_zero, dtI_zero]
    · rw [if_pos (by omega), if_pos (by omega), if_pos (by omega), dtI_mid _ _ _ _ _ c1 c2, dtI_mid _ _ _ _ _ c1 (by omega)]; rfl
    · rw [if_pos (by omega), if_neg (by omega), if_pos (by omega), dtI_end, dtI_end]
    · rw [if_neg (by omega), if_neg (by omega), if_neg (by omega)]
  · simp only [if_true]
    rcases hc with rfl | ⟨c1, c2⟩ | rfl | c
    · rw [if_pos (by omega), if_pos (by omega), if_pos (by omega), dtI_zero, dtI_zero]
    · rw [if_pos (by omega), if_neg (by omega), if_pos (by omega), dtI_mid _ _ _ _ _ c1 c2, dtI_mid _ _ _ _ _ (by omega) (by omega)]
      simp only [if_true]
      rw [show n + 1 + 1 - (i + 1) = n + 1 - i by omega]
    · rw [if_pos (by omega), if_neg (by omega), if_pos (by omega), dtI_end, dtI_end]
    · rw [if_neg (by omega), if_neg (by omega), if_neg (by omega)]
end Go.Proofs.YtfheeipggedaiaaDoor

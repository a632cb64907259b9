/- Layer 4, plain: business days, valid calendars, the n-th of a list of days, counts; a calendar's holidays in memory. -/
import Derived.Test.YtalnfbgaiegicaaDatM
import Derived.Lib.Hide
import Derived.WalkKit
import Derived.RangeFuncLeaves
namespace Go.Proofs.Ytalnfbgaiegicaa
open Go Go.RowKit

def dayB (d : Int) : Bool := decide (0 ≤ d) && decide (d ≤ 99999)
theorem dayB_iff (d : Int) : dayB d = true ↔ 0 ≤ d ∧ d ≤ 99999 := by unfold dayB; simp
/-- The weekday of a day is part of the weekend. -/
def offB (we d : Int) : Bool := decide (we / 2 ^ (d % 7).toNat % 2 = 1)
/-- A business day. -/
def bizB (we : Int) (hs : List Int) (d : Int) : Bool := !offB we d && !hs.contains d
/-- In increasing order, each a day. -/
def ordB : List Int → Bool
  | [] => true
  | [a] => dayB a
  | a :: b :: r => dayB a && decide (a < b) && ordB (b :: r)
/-- A valid calendar. -/
def valB (we : Int) (hs : List Int) : Bool := decide (we ≤ 126) && decide (hs.length ≤ 1000) && ordB hs
/-- What the loop over the holidays has seen of them. -/
def okK (hs : List Int) : Nat → Bool
  | 0 => true
  | k + 1 => okK hs k && dayB (hs.getD k 0) && (decide (k = 0) || decide (hs.getD (k - 1) 0 < hs.getD k 0))
theorem okK_le (hs : List Int) {k m : Nat} (h : k ≤ m) (hm : okK hs m = true) : okK hs k = true := by
  induction m with
  | zero =>
    obtain rfl : k = 0 := by omega
    exact hm
  | succ m ih =>
    by_cases e : k = m + 1
    · subst e; exact hm
    · refine ih (by omega) ?_
      simp only [okK, Bool.and_eq_true] at hm
      exact hm.1.1
theorem okK_cons (a : Int) (r : List Int) (k : Nat) : okK (a :: r) (k + 1) = (dayB a && okK r k && (decide (k = 0) || decide (a < r.getD 0 0))) := by
  induction k with
  | zero => simp [okK]
  | succ k ih =>
    rw [okK, ih]
    have e1 : (a :: r).getD (k + 1) 0 = r.getD k 0 := by simp
    rw [e1, okK]
    cases k with
    | zero => simp [okK, Bool.and_comm]
    | succ k =>
      have e2 : (a :: r).getD (k + 1 + 1 - 1) 0 = r.getD (k + 1 - 1) 0 := by simp
      have e3 : decide (k + 1 + 1 = 0) = false := by simp
      have e4 : decide (k + 1 = 0) = false := by simp
      rw [e2, e3, e4, Bool.false_or, Bool.false_or]
      cases dayB a <;> cases okK r (k + 1) <;> cases dayB (r.getD (k + 1) 0) <;> cases decide (a < r.getD 0 0) <;> cases decide (r.getD (k + 1 - 1) 0 < r.getD (k + 1) 0) <;> rfl
theorem okK_ordB (hs : List Int) : okK hs hs.length = ordB hs := by
  induction hs with
  | nil => rfl
  | cons a r ih =>
    rw [List.length_cons, okK_cons, ih]
    cases r with
    | nil => simp [ordB]
    | cons b r =>
      rw [ordB]
      simp only [List.length_cons, List.getD_cons_zero]
      have : decide (r.length + 1 = 0) = false := by simp
      rw [this, Bool.false_or]
      cases dayB a <;> cases ordB (b :: r) <;> cases decide (a < b) <;> rfl
theorem ordB_tail {a : Int} {r : List Int} (h : ordB (a :: r) = true) : ordB r = true := by
  cases r with
  | nil => rfl
  | cons b r => simp only [ordB, Bool.and_eq_true] at h; exact h.2
theorem ordB_head {a : Int} {r : List Int} (h : ordB (a :: r) = true) : dayB a = true := by
  cases r with
  | nil => exact h
  | cons b r => simp only [ordB, Bool.and_eq_true] at h; exact h.1.1
theorem ordB_lt {a : Int} {r : List Int} (h : ordB (a :: r) = true) : ∀ x ∈ r, a < x := by
  induction r generalizing a with
  | nil => simp
  | cons b r ih =>
    intro x hx
    have hb : a < b := by simp only [ordB, Bool.and_eq_true, decide_eq_true_eq] at h; exact h.1.2
    rcases List.mem_cons.1 hx with rfl | hx
    · exact hb
    · have := ih (ordB_tail h) x hx; omega
theorem ordB_pair {hs : List Int} (h : ordB hs = true) : hs.Pairwise (· < ·) := by
  induction hs with
  | nil => exact List.Pairwise.nil
  | cons a r ih => exact List.Pairwise.cons (ordB_lt h) (ih (ordB_tail h))
theorem ordB_le {hs : List Int} (h : ordB hs = true) : hs.Pairwise (· ≤ ·) := (ordB_pair h).imp (fun h => Int.le_of_lt h)
theorem ordB_day {hs : List Int} (h : ordB hs = true) : ∀ x ∈ hs, 0 ≤ x ∧ x ≤ 99999 := by
  induction hs with
  | nil => simp
  | cons a r ih =>
    intro x hx
    rcases List.mem_cons.1 hx with rfl | hx
    · exact (dayB_iff _).1 (ordB_head h)
    · exact ih (ordB_tail h) x hx

/-- The n-th (from 1 on) of a list's elements that p holds. -/
def nthL (p : Int → Bool) : List Int → Int → Option Int
  | [], _ => none
  | d :: r, n => if p d then (if n - 1 = 0 then some d else nthL p r (n - 1)) else nthL p r n
/-- The k days from d on in steps of s. -/
def dys (s : Int) : Nat → Int → List Int
  | 0, _ => []
  | k + 1, d => d :: dys s k (d + s)
def nV (o : Option Int) : Int := o.getD 0
def nE : Option Int → Int
  | some _ => 0
  | none => 40
/-- k days are left in the direction s, d the first of them. -/
def At (s : Int) (k : Nat) (d : Int) : Prop := k ≤ 100000 ∧ ((s = 1 ∧ d = 100000 - (k : Int)) ∨ (s = -1 ∧ d = (k : Int) - 1))
theorem At.day {s : Int} {k : Nat} {d : Int} (h : At s (k + 1) d) : 0 ≤ d ∧ d ≤ 99999 := by unfold At at h; omega
theorem At.next {s : Int} {k : Nat} {d : Int} (h : At s (k + 1) d) : At s k (d + s) := by unfold At at h ⊢; omega
theorem At.out {s : Int} {d : Int} (h : At s 0 d) : d < 0 ∨ 99999 < d := by unfold At at h; omega
theorem At.dayB {s : Int} {k : Nat} {d : Int} (h : At s k d) : dayB d = decide (0 < k) := by
  rw [Bool.eq_iff_iff, dayB_iff, decide_eq_true_iff]; unfold At at h; omega
theorem At.fwd (d : Int) (h0 : 0 ≤ d) (h1 : d ≤ 100000) : At 1 (100000 - d).toNat d := by unfold At; omega
theorem At.bwd (d : Int) (h0 : -1 ≤ d) (h1 : d ≤ 99999) : At (-1) (d + 1).toNat d := by unfold At; omega

/-- How many of the first k days p holds. -/
def cum (p : Int → Bool) : Nat → Int
  | 0 => 0
  | k + 1 => cum p k + (if p k then 1 else 0)
def cumI (p : Int → Bool) (d : Int) : Int := cum p d.toNat
theorem cumI_succ (p : Int → Bool) (d : Int) (h : 0 ≤ d) : cumI p (d + 1) = cumI p d + (if p d then 1 else 0) := by
  obtain ⟨k, rfl⟩ : ∃ k : Nat, d = k := ⟨d.toNat, by omega⟩
  have e : ((k : Int) + 1).toNat = k + 1 := by omega
  unfold cumI
  rw [e]; simp [cum]
theorem cum_mono (p : Int → Bool) {a b : Nat} (h : a ≤ b) : cum p a ≤ cum p b ∧ cum p b ≤ cum p a + ((b : Int) - a) := by
  induction b with
  | zero =>
    obtain rfl : a = 0 := by omega
    simp
  | succ b ih =>
    by_cases e : a = b + 1
    · subst e; simp
    · have := ih (by omega)
      rw [cum]; split <;> omega
theorem cumI_mono (p : Int → Bool) {a b : Int} (h0 : 0 ≤ a) (h : a ≤ b) : cumI p a ≤ cumI p b ∧ cumI p b ≤ cumI p a + (b - a) := by
  unfold cumI
  have := cum_mono p (a := a.toNat) (b := b.toNat) (by omega)
  omega
theorem cumI_lt (p : Int → Bool) {a b : Int} (h0 : 0 ≤ a) (h : a < b) (hp : p a = true) : cumI p a < cumI p b := by
  have := cumI_succ p a h0
  rw [hp] at this
  have := (cumI_mono p (a := a + 1) (b := b) (by omega) (by omega)).1
  simp at *
  omega

/-- The n-th day forward: what it is. -/
theorem nth_fwd (p : Int → Bool) (k : Nat) : ∀ (d n r : Int), At 1 k d → 1 ≤ n → (nthL p (dys 1 k d) n = some r ↔ (p r = true ∧ d ≤ r ∧ r ≤ 99999 ∧ cumI p r = cumI p d + (n - 1))) := by
  induction k with
  | zero =>
    intro d n r h hn
    have := h.out
    have h' := h
    unfold At at h'
    simp only [dys, nthL]
    constructor
    · intro e; cases e
    · rintro ⟨_, _, _, _⟩; omega
  | succ k ih =>
    intro d n r h hn
    have hd := h.day
    have hc := cumI_succ p d hd.1
    simp only [dys, nthL]
    by_cases hp : p d = true
    · rw [if_pos hp]
      rw [if_pos hp] at hc
      by_cases h1 : n - 1 = 0
      · rw [if_pos h1]
        constructor
        · intro e
          obtain rfl : d = r := by injection e
          exact ⟨hp, Int.le_refl _, hd.2, by omega⟩
        · rintro ⟨h2, h3, h4, h5⟩
          by_cases e : d = r
          · rw [e]
          · have := cumI_lt p hd.1 (by omega : d < r) hp
            omega
      · rw [if_neg h1, ih (d + 1) (n - 1) r h.next (by omega)]
        constructor
        · rintro ⟨h2, h3, h4, h5⟩; exact ⟨h2, by omega, h4, by omega⟩
        · rintro ⟨h2, h3, h4, h5⟩
          refine ⟨h2, ?_, h4, by omega⟩
          by_cases e : d = r
          · subst e; omega
          · omega
    · rw [if_neg hp]
      rw [if_neg hp] at hc
      rw [ih (d + 1) n r h.next hn]
      constructor
      · rintro ⟨h2, h3, h4, h5⟩; exact ⟨h2, by omega, h4, by omega⟩
      · rintro ⟨h2, h3, h4, h5⟩
        refine ⟨h2, ?_, h4, by omega⟩
        by_cases e : d = r
        · subst e; exact absurd h2 hp
        · omega
/-- The n-th day backward. -/
theorem nth_bwd (p : Int → Bool) (k : Nat) : ∀ (d n r : Int), At (-1) k d → 1 ≤ n → (nthL p (dys (-1) k d) n = some r ↔ (p r = true ∧ 0 ≤ r ∧ r ≤ d ∧ cumI p (d + 1) = cumI p r + n)) := by
  induction k with
  | zero =>
    intro d n r h hn
    have h' := h
    unfold At at h'
    simp only [dys, nthL]
    constructor
    · intro e; cases e
    · rintro ⟨_, _, _, _⟩; omega
  | succ k ih =>
    intro d n r h hn
    have hd := h.day
    have hc := cumI_succ p d hd.1
    have e1 : d + -1 + 1 = d := by omega
    simp only [dys, nthL]
    by_cases hp : p d = true
    · rw [if_pos hp]
      rw [if_pos hp] at hc
      by_cases h1 : n - 1 = 0
      · rw [if_pos h1]
        constructor
        · intro e
          obtain rfl : d = r := by injection e
          exact ⟨hp, hd.1, Int.le_refl _, by omega⟩
        · rintro ⟨h2, h3, h4, h5⟩
          by_cases e : d = r
          · rw [e]
          · have := cumI_lt p h3 (by omega : r < d) h2
            omega
      · rw [if_neg h1, ih (d + -1) (n - 1) r h.next (by omega), e1]
        constructor
        · rintro ⟨h2, h3, h4, h5⟩; exact ⟨h2, h3, by omega, by omega⟩
        · rintro ⟨h2, h3, h4, h5⟩
          refine ⟨h2, h3, ?_, by omega⟩
          by_cases e : d = r
          · subst e; omega
          · omega
    · rw [if_neg hp]
      rw [if_neg hp] at hc
      rw [ih (d + -1) n r h.next hn, e1]
      constructor
      · rintro ⟨h2, h3, h4, h5⟩; exact ⟨h2, h3, by omega, by omega⟩
      · rintro ⟨h2, h3, h4, h5⟩
        refine ⟨h2, h3, ?_, by omega⟩
        by_cases e : d = r
        · subst e; exact absurd h2 hp
        · omega

/-- A slice of numbers reads so. -/
def HsA (w : World) (A : Option Addr) (hs : List Int) : Prop :=
  hs = [] ∨ ∃ b o, A = some ⟨b, o, none⟩ ∧ b < w.heap.size ∧ ∀ j, j < hs.length → w.cell? ⟨b, o + j, none⟩ = some (.int .i64 (hs.getD j 0))
theorem HsA.below {w w' : World} {A : Option Addr} {hs : List Int} (h : HsA w A hs) (hb : Below w.heap.size w w') : HsA w' A hs := by
  rcases h with h | ⟨b, o, h1, h2, h3⟩
  · exact .inl h
  · exact .inr ⟨b, o, h1, Nat.lt_of_lt_of_le h2 hb.size, fun j hj => (hb.cell (p := ⟨b, o + j, none⟩) h2).trans (h3 j hj)⟩
theorem HsA.get {w : World} {A : Option Addr} {hs : List Int} (h : HsA w A hs) {j : Nat} (hj : j < hs.length) : ∃ b o, A = some ⟨b, o, none⟩ ∧ b < w.heap.size ∧ ∀ j, j < hs.length → w.cell? ⟨b, o + j, none⟩ = some (.int .i64 (hs.getD j 0)) := by
  rcases h with rfl | h
  · simp at hj
  · exact h
end Go.Proofs.Ytalnfbgaiegicaa

/- Layer 4: the program's walks: valid calendars, rolled days, counts. -/
import Derived.Test.YtgnmcjfocnnffaaCalD
import Derived.WalkSpells
import Derived.WalkLawsBesides
namespace Go.Proofs.Ytgnmcjfocnnffaa
open Go Go.RowKit

theorem dys_day (s : Int) (k : Nat) : ∀ (d : Int), At s k d → ∀ x ∈ dys s k d, 0 ≤ x ∧ x ≤ 99999 := by
  induction k with
  | zero => intro d _ x hx; simp [dys] at hx
  | succ k ih =>
    intro d ha x hx
    rcases List.mem_cons.1 hx with rfl | hx
    · exact ha.day
    · exact ih _ ha.next x hx
/-- S tells which days are of the month of a day. -/
def SmIs (day : Int) (S : Int → Bool) : Prop := ∀ t y m d y' m' d', IsDate y m d day → IsDate y' m' d' t → S t = (decide (y = y') && decide (m = m'))
theorem smIs_ex (day : Int) (h0 : 0 ≤ day) : ∃ S, SmIs day S := by
  obtain ⟨y, m, d, h⟩ := isDate_of day h0
  refine ⟨fun t => @decide (∃ d', IsDate y m d' t) (Classical.propDecidable _), fun t y1 m1 d1 y' m' d' h1 h' => ?_⟩
  obtain ⟨rfl, rfl, rfl⟩ := h.uniq h1
  by_cases e : ∃ d', IsDate y m d' t
  · obtain ⟨d2, h2⟩ := e
    obtain ⟨rfl, rfl, rfl⟩ := h2.uniq h'
    simp; exact ⟨_, h2⟩
  · have : ¬ (y = y' ∧ m = m') := by rintro ⟨rfl, rfl⟩; exact e ⟨_, h'⟩
    simp only [e, decide_false]
    symm
    rw [Bool.and_eq_false_iff, decide_eq_false_iff_not, decide_eq_false_iff_not]
    by_cases hy : y = y'
    · exact .inr (fun hm => this ⟨hy, hm⟩)
    · exact .inl hy

/-- The answer of a rule: a is the next business day in the first direction, b in the other. -/
def keepO (S : Int → Bool) (a b : Option Int) : Option Int := match a with | some t => if S t then some t else b | none => b
def fwO (p : Int → Bool) (d n : Int) : Option Int := nthL p (dys 1 (100000 - d).toNat d) n
def bwO (p : Int → Bool) (d n : Int) : Option Int := nthL p (dys (-1) (d + 1).toNat d) n
def rolO (S : Int → Bool) (p : Int → Bool) (r day : Int) : Option Int :=
  if r = 0 then some day else if r = 1 then fwO p day 1 else if r = 2 then bwO p day 1 else if r = 3 then keepO S (fwO p day 1) (bwO p day 1) else keepO S (bwO p day 1) (fwO p day 1)
theorem nthL_mem (p : Int → Bool) (l : List Int) : ∀ (n r : Int), nthL p l n = some r → r ∈ l := by
  induction l with
  | nil => intro n r h; simp [nthL] at h
  | cons d l ih =>
    intro n r h
    simp only [nthL] at h
    split at h
    · split at h
      · obtain rfl : d = r := by injection h
        simp
      · exact List.mem_cons_of_mem _ (ih _ _ h)
    · exact List.mem_cons_of_mem _ (ih _ _ h)
theorem fwO_day {p : Int → Bool} {d n r : Int} (h0 : 0 ≤ d) (h1 : d ≤ 100000) (h : fwO p d n = some r) : 0 ≤ r ∧ r ≤ 99999 := dys_day _ _ _ (At.fwd d h0 h1) r (nthL_mem _ _ _ _ h)
theorem bwO_day {p : Int → Bool} {d n r : Int} (h0 : -1 ≤ d) (h1 : d ≤ 99999) (h : bwO p d n = some r) : 0 ≤ r ∧ r ≤ 99999 := dys_day _ _ _ (At.bwd d h0 h1) r (nthL_mem _ _ _ _ h)

/-- One rule that keeps the month: the first direction's day, the other one's. -/
theorem keep_cases (S : Int → Bool) (a b : Option Int) (ha : ∀ t, a = some t → 0 ≤ t ∧ t ≤ 99999) :
    (nE a = 40 ∧ nV a = 0 ∧ keepO S a b = b) ∨ (nE a = 0 ∧ 0 ≤ nV a ∧ nV a ≤ 99999 ∧ S (nV a) = false ∧ keepO S a b = b) ∨ (nE a = 0 ∧ 0 ≤ nV a ∧ nV a ≤ 99999 ∧ S (nV a) = true ∧ keepO S a b = a) := by
  cases a with
  | none => exact .inl ⟨rfl, rfl, rfl⟩
  | some t =>
    obtain ⟨h0, h1⟩ := ha t rfl
    cases h : S t
    · exact .inr (.inl ⟨rfl, h0, h1, h, by simp [keepO, h]⟩)
    · exact .inr (.inr ⟨rfl, h0, h1, h, by simp [keepO, h]⟩)

section
variable (B : Nat) (p : Int → Bool) (S : Int → Bool) (day : Int)
end

/-- How many business days from a day on and before another, in whichever order. -/
def cntV (p : Int → Bool) (a b : Int) : Int := cumI p b - cumI p a
end Go.Proofs.Ytgnmcjfocnnffaa

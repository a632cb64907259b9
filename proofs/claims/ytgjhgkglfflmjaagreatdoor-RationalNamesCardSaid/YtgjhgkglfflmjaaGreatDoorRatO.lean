/- Layer 2: the order of rational numbers. No walk. -/
import Derived.Test.YtgjhgkglfflmjaaGreatDoorRatM
namespace Go.Proofs.YtgjhgkglfflmjaaGreatDoor
open Go Go.RowKit

theorem cmpQ_tri (a b : Rat) : (a < b ∧ cmpQ a b = -1) ∨ (a = b ∧ cmpQ a b = 0) ∨ (b < a ∧ cmpQ a b = 1) := by
  unfold cmpQ
  by_cases h : a < b
  · exact .inl ⟨h, if_pos h⟩
  · rw [if_neg h]
    by_cases h2 : b < a
    · exact .inr (.inr ⟨h2, if_pos h2⟩)
    · exact .inr (.inl ⟨Rat.le_antisymm (Rat.not_lt.1 h2) (Rat.not_lt.1 h), if_neg h2⟩)
theorem cmpQ_lt {a b : Rat} (h : a < b) : cmpQ a b = -1 := if_pos h
theorem cmpQ_gt {a b : Rat} (h : b < a) : cmpQ a b = 1 := by
  unfold cmpQ
  rw [if_neg (fun g => absurd (Rat.le_of_lt g) (Rat.not_le.2 h)), if_pos h]
theorem cmpQ_eq (a : Rat) : cmpQ a a = 0 := by unfold cmpQ; rw [if_neg Rat.lt_irrefl, if_neg Rat.lt_irrefl]
theorem cmpQ_swap (a b : Rat) : cmpQ b a = -cmpQ a b := by
  rcases cmpQ_tri a b with ⟨h, e⟩ | ⟨rfl, e⟩ | ⟨h, e⟩
  · rw [e, cmpQ_gt h]; rfl
  · rw [e]; rfl
  · rw [e, cmpQ_lt h]
theorem cmpQ_add (a b c : Rat) : cmpQ (a + c) (b + c) = cmpQ a b := by
  unfold cmpQ
  simp only [Rat.add_lt_add_right]
theorem cmpQ_mul (a b c : Rat) : cmpQ (a * c) (b * c) = cmpQ a b * cmpQ c 0 := by
  rcases cmpQ_tri c 0 with ⟨h, e⟩ | ⟨rfl, e⟩ | ⟨h, e⟩
  · rw [e]
    have hn : 0 < -c := by have := Rat.neg_lt_neg h; rwa [Rat.neg_zero] at this
    have k (x y : Rat) : x * c < y * c ↔ y < x := by
      have := Rat.mul_lt_mul_right (a := y) (b := x) hn
      rw [Rat.mul_neg, Rat.mul_neg, Rat.neg_lt_neg_iff] at this
      exact this
    rcases cmpQ_tri a b with ⟨g, e2⟩ | ⟨rfl, e2⟩ | ⟨g, e2⟩
    · rw [e2, cmpQ_gt ((k _ _).2 g)]; rfl
    · rw [e2, cmpQ_eq]; rfl
    · rw [e2, cmpQ_lt ((k _ _).2 g)]; rfl
  · rw [e, Rat.mul_zero, Rat.mul_zero, cmpQ_eq, Int.mul_zero]
  · rw [e, Int.mul_one]
    unfold cmpQ
    simp only [Rat.mul_lt_mul_right h]
theorem cmpQ_trans {a b c : Rat} (h : cmpQ a b ≤ 0) (h2 : cmpQ b c ≤ 0) : cmpQ a c ≤ 0 ∧ (cmpQ a b < 0 → cmpQ a c < 0) := by
  have k (x y : Rat) (h : cmpQ x y ≤ 0) : x ≤ y := by
    rcases cmpQ_tri x y with ⟨g, _⟩ | ⟨rfl, _⟩ | ⟨_, e⟩
    · exact Rat.le_of_lt g
    · exact Rat.le_refl
    · rw [e] at h; exact absurd h (by decide)
  have h3 := Rat.le_trans (k _ _ h) (k _ _ h2)
  constructor
  · rcases cmpQ_tri a c with ⟨_, e⟩ | ⟨_, e⟩ | ⟨g, e⟩
    · rw [e]; decide
    · rw [e]; decide
    · exact absurd h3 (Rat.not_le.2 g)
  · intro hl
    rcases cmpQ_tri a c with ⟨_, e⟩ | ⟨rfl, e⟩ | ⟨g, e⟩
    · rw [e]; decide
    · have := Rat.le_antisymm (k _ _ h) (k _ _ h2)
      rw [this, cmpQ_eq] at hl
      exact absurd hl (by decide)
    · exact absurd h3 (Rat.not_le.2 g)
end Go.Proofs.YtgjhgkglfflmjaaGreatDoor

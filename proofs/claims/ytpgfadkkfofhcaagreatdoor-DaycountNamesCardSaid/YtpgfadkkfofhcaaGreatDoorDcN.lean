/- Layer 5, plain: fractions as rationals. No walk. -/
import Derived.Test.YtpgfadkkfofhcaaGreatDoorDcD
import Derived.Test.YtpgfadkkfofhcaaGreatDoorRatAf
namespace Go.Proofs.YtpgfadkkfofhcaaGreatDoor
open Go Go.RowKit

/-- The days of a year. -/
def yln (y : Int) : Int := if leapB y then 366 else 365
theorem yln_cases (y : Int) : (leapB y = true ∧ yln y = 366) ∨ (leapB y = false ∧ yln y = 365) := by
  unfold yln
  cases leapB y
  · exact .inr ⟨rfl, rfl⟩
  · exact .inl ⟨rfl, rfl⟩
theorem yln_ne (y : Int) : yln y ≠ 0 := by rcases yln_cases y with ⟨_, h⟩ | ⟨_, h⟩ <;> rw [h] <;> decide
/-- The year of a day with the part of it that is before the day. -/
def yup (y n : Int) : Rat := Rat.divInt (y * yln y + n - foy y) (yln y)
theorem yup_act (y n : Int) : yup y n = 1900 + actQ y n := by
  have hl : lpD y n = 366 * lvs y + (if leapB y then n - foy y else 0) := rfl
  have hc : cmD y n = 365 * (y - 1900 - lvs y) + (if leapB y then 0 else n - foy y) := rfl
  unfold yup actQ
  rw [Rat.divInt_eq_div, hl, hc]
  generalize foy y = f
  generalize lvs y = l
  have h1 : ((365 : Int) : Rat) = 365 := rfl
  have h2 : ((366 : Int) : Rat) = 366 := rfl
  have h3 : ((1900 : Int) : Rat) = 1900 := rfl
  rcases yln_cases y with ⟨h, e⟩ | ⟨h, e⟩
  · rw [h, e]
    simp only [if_true]
    simp only [Rat.intCast_add, Rat.intCast_sub, Rat.intCast_mul, h1, h2, h3, Rat.add_zero, Rat.intCast_zero]
    grind
  · rw [h, e]
    simp only [Bool.false_eq_true, if_false]
    simp only [Rat.intCast_add, Rat.intCast_sub, Rat.intCast_mul, h1, h2, h3, Rat.add_zero, Rat.intCast_zero]
    grind
/-- The fraction by a rule. -/
def frQ (r y1 m1 d1 n1 y2 m2 d2 n2 : Int) : Rat := if r = 3 then yup y2 n2 - yup y1 n1 else Rat.divInt (dys r y1 m1 d1 n1 y2 m2 d2 n2) (if r = 0 then 365 else 360)
theorem dg6 {x : Int} (h0 : -999999 ≤ x) (h1 : x ≤ 999999) : Dg 6 x := by
  unfold Dg
  have : (10 : Nat) ^ 6 = 1000000 := by decide
  rw [this]; omega
theorem qd6 {x y : Int} (h : y ≠ 0) (x0 : -999999 ≤ x) (x1 : x ≤ 999999) (y0 : -999999 ≤ y) (y1 : y ≤ 999999) : QD 6 (Rat.divInt x y) :=
  qd_divInt h (dg6 x0 x1) (dg6 y0 y1)
theorem IsDate.foy_in {y m d n : Int} (h : IsDate y m d n) : foy y ≤ n ∧ n < foy y + 366 := by
  have h1 := h.in_y
  have h2 := foy_len y
  split at h2 <;> omega
theorem yup_bd {y m d n : Int} (h : IsDate y m d n) (hn : n ≤ 99999) : 0 ≤ y * yln y + n - foy y ∧ y * yln y + n - foy y ≤ 999999 := by
  obtain ⟨p0, p1, -, -, -, -, -⟩ := h.bds hn
  have h1 := h.foy_in
  rcases yln_cases y with ⟨_, e⟩ | ⟨_, e⟩ <;> rw [e] <;> omega
theorem yup_qd {y m d n : Int} (h : IsDate y m d n) (hn : n ≤ 99999) : QD 6 (yup y n) := by
  have h1 := yup_bd h hn
  rcases yln_cases y with ⟨_, e⟩ | ⟨_, e⟩
  · unfold yup; rw [e] at h1 ⊢; exact qd6 (by decide) (by omega) (by omega) (by decide) (by decide)
  · unfold yup; rw [e] at h1 ⊢; exact qd6 (by decide) (by omega) (by omega) (by decide) (by decide)
theorem frQ_qd {r y1 m1 d1 n1 y2 m2 d2 n2 : Int} (h1 : IsDate y1 m1 d1 n1) (h2 : IsDate y2 m2 d2 n2) (b1 : n1 ≤ 99999) (b2 : n2 ≤ 99999) : QD 13 (frQ r y1 m1 d1 n1 y2 m2 d2 n2) := by
  have g := dys_bd (r := r) h1 h2 b1 b2
  unfold frQ
  split
  · exact (yup_qd h2 b2).sub (yup_qd h1 b1)
  · split
    · exact (qd6 (by decide) (by omega) (by omega) (by decide) (by decide)).mono (by decide)
    · exact (qd6 (by decide) (by omega) (by omega) (by decide) (by decide)).mono (by decide)
/-- By rule 3, in days of leap years and of other years. -/
theorem frQ_act {y1 n1 y2 n2 : Int} : yup y2 n2 - yup y1 n1 = actQ y2 n2 - actQ y1 n1 := by
  rw [yup_act, yup_act]; grind
end Go.Proofs.YtpgfadkkfofhcaaGreatDoor

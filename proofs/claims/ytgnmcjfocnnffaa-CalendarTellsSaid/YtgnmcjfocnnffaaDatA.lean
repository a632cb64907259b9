/- Layer 3: the program's walks over numbers: leap years, months, years. -/
import Derived.Test.YtgnmcjfocnnffaaDatM
import Derived.Test.YtgnmcjfocnnffaaRows
import Derived.WalkKit
import Derived.WalkSpells
import Derived.WalkLawsBesides
import Derived.Lib.Hide
import Derived.Deep.QuietTactic
import Derived.BigQuiet
import Derived.BigRegion
import Derived.WalkSmall
import Derived.Lib.LaidTab
import Derived.Outline
namespace Go.Proofs.Ytgnmcjfocnnffaa
open Go Go.RowKit

theorem ret_int {k : IntKind} {a b : Int} (h : a = b) : Ending.returned (.int k a) = .returned (.int k b) := by rw [h]
theorem ret_bool {a b : Bool} (h : a = b) : Ending.returned (.bool a) = .returned (.bool b) := by rw [h]
theorem int_eq {k : IntKind} {a b : Int} (h : a = b) : Value.int k a = .int k b := by rw [h]

theorem tmod_zero (y k : Int) : (y.tmod k == 0) = decide (y % k = 0) := by
  rw [Bool.eq_iff_iff, beq_iff_eq, decide_eq_true_iff]
  exact ⟨fun h => Int.emod_eq_zero_of_dvd (Int.dvd_of_tmod_eq_zero h), fun h => Int.tmod_eq_zero_of_dvd (Int.dvd_of_emod_eq_zero h)⟩

theorem leapB_eq (y : Int) : leapB y = ((y.tmod 4 == 0) && ((y.tmod 100 != 0) || (y.tmod 400 == 0))) := by
  have h4 := tmod_zero y 4
  have h1 := tmod_zero y 100
  have h5 := tmod_zero y 400
  rw [h4, h5, bne, h1]; unfold leapB; simp

/-- The lengths of months lie in memory. -/
def lens : List Int := [31, 28, 31, 30, 31, 30, 31, 31, 30, 31, 30, 31]
theorem lens_len (m : Int) (h0 : 1 ≤ m) (h1 : m ≤ 12) : ∃ k : Nat, m = (k : Int) + 1 ∧ k < 12 ∧ ∀ y, mlen y m = lens.getD k 0 + (if m = 2 ∧ leapB y then 1 else 0) := by
  refine ⟨(m - 1).toNat, by omega, by omega, fun y => ?_⟩
  have : m = 1 ∨ m = 2 ∨ m = 3 ∨ m = 4 ∨ m = 5 ∨ m = 6 ∨ m = 7 ∨ m = 8 ∨ m = 9 ∨ m = 10 ∨ m = 11 ∨ m = 12 := by omega
  rcases this with rfl | rfl | rfl | rfl | rfl | rfl | rfl | rfl | rfl | rfl | rfl | rfl
  case inr.inl => cases h : leapB y <;> simp [mlen, h] <;> rfl
  all_goals (simp [mlen]; rfl)

end Go.Proofs.Ytgnmcjfocnnffaa

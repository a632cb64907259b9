/- Layer 4: the reference's walks: days looked at one by one. -/
import Derived.Test.YtgnmcjfocnnffaaCalH
namespace Go.Proofs.Ytgnmcjfocnnffaa
open Go Go.RowKit

/-- How many days are left. -/
def stepsN (s : Int) (v : Value) : Nat := if s = 1 then (100000 - intOf v).toNat else (intOf v + 1).toNat
theorem stepsN_of {s : Int} {k : Nat} {d : Int} (h : At s k d) : stepsN s (.int .i64 d) = k := by
  unfold stepsN intOf; unfold At at h; simp only; split <;> omega

theorem beq_flip (a b : Int) : (a == b) = decide (b = a) := by
  by_cases h : a = b
  · subst h; simp
  · rw [beq_eq_false_iff_ne.2 h, decide_eq_false (fun e => h e.symm)]
end Go.Proofs.Ytgnmcjfocnnffaa

/- Layer 3: the reference's walks over numbers. -/
import Derived.Test.YtgnmcjfocnnffaaDatC
namespace Go.Proofs.Ytgnmcjfocnnffaa
open Go Go.RowKit

set_option maxHeartbeats 400000 in
theorem in_any (n a b : Int) (r : Bool) (h : (a ≤ n ∧ n ≤ b) ↔ r = true) (w : World) :
    Calls Try.prog 22 #[.int .i64 n, .int .i64 a, .int .i64 b] w fun e w' => e = .returned (.bool r) ∧ w = w' := by
  by_cases h0 : a ≤ n
  · by_cases h1 : n ≤ b
    · obtain rfl : r = true := h.1 ⟨h0, h1⟩
      clear h
      go_enter Try.func22, Try.ntmps22
      go_wp2
      go_ret
      exact ⟨rfl, rfl⟩
    · obtain rfl : r = false := by cases r; rfl; exact absurd (h.2 rfl).2 h1
      have hd : decide (n ≤ b) = false := decide_eq_false h1
      clear h h1
      go_enter Try.func22, Try.ntmps22
      go_wp2
      go_ret
      exact ⟨rfl, rfl⟩
  · obtain rfl : r = false := by cases r; rfl; exact absurd (h.2 rfl).1 h0
    have hd : decide (a ≤ n) = false := decide_eq_false h0
    have hlt : n < a := by omega
    clear h h0
    go_enter Try.func22, Try.ntmps22
    go_wp2
    go_ret
    exact ⟨rfl, rfl⟩
set_option maxHeartbeats 400000 in
theorem day_any (n : Int) (r : Bool) (h : (0 ≤ n ∧ n ≤ 99999) ↔ r = true) (w : World) :
    Calls Try.prog 14 #[.int .i64 n] w fun e w' => e = .returned (.bool r) ∧ w = w' := by
  have HI := Lib.hid (in_any n 0 99999 r h)
  clear h
  go_enter Try.func14, Try.ntmps14
  go_wp2_with (go_at_call 22; ((with_reducible refine (HI.out _).mono ?_); rintro e w' ⟨rfl, rfl⟩))
  go_ret
  exact ⟨rfl, rfl⟩
theorem foy_step (z : Int) : foy (z + 1) = foy z + 365 + (if leapB z then 1 else 0) := by
  rw [foy_succ, mo12]; omega
end Go.Proofs.Ytgnmcjfocnnffaa

/- Layer 3: the reference's walks over numbers. -/
import Derived.Test.YtpgfadkkfofhcaaGreatDoorDatC
namespace Go.Proofs.YtpgfadkkfofhcaaGreatDoor
open Go Go.RowKit

set_option maxHeartbeats 400000 in
theorem in_any (n a b : Int) (r : Bool) (h : (a ≤ n ∧ n ≤ b) ↔ r = true) (w : World) :
    Calls Tryz.prog 64 #[.int .i64 n, .int .i64 a, .int .i64 b] w fun e w' => e = .returned (.bool r) ∧ w = w' := by
  by_cases h0 : a ≤ n
  · by_cases h1 : n ≤ b
    · obtain rfl : r = true := h.1 ⟨h0, h1⟩
      clear h
      go_enter Tryz.func64, Tryz.ntmps64
      go_wp2
      go_ret
      exact ⟨rfl, rfl⟩
    · obtain rfl : r = false := by cases r; rfl; exact absurd (h.2 rfl).2 h1
      have hd : decide (n ≤ b) = false := decide_eq_false h1
      clear h h1
      go_enter Tryz.func64, Tryz.ntmps64
      go_wp2
      go_ret
      exact ⟨rfl, rfl⟩
  · obtain rfl : r = false := by cases r; rfl; exact absurd (h.2 rfl).1 h0
    have hd : decide (a ≤ n) = false := decide_eq_false h0
    have hlt : n < a := by omega
    clear h h0
    go_enter Tryz.func64, Tryz.ntmps64
    go_wp2
    go_ret
    exact ⟨rfl, rfl⟩
set_option maxHeartbeats 400000 in
theorem day_any (n : Int) (r : Bool) (h : (0 ≤ n ∧ n ≤ 99999) ↔ r = true) (w : World) :
    Calls Tryz.prog 44 #[.int .i64 n] w fun e w' => e = .returned (.bool r) ∧ w = w' := by
  have HI := Lib.hid (in_any n 0 99999 r h)
  clear h
  go_enter Tryz.func44, Tryz.ntmps44
  go_wp2_with (go_at_call 64; ((with_reducible refine (HI.out _).mono ?_); rintro e w' ⟨rfl, rfl⟩))
  go_ret
  exact ⟨rfl, rfl⟩
set_option maxHeartbeats 400000 in
theorem refLeap_any (y : Int) (w : World) :
    Calls Tryz.prog 26 #[.int .i64 y] w fun e w' => e = .returned (.bool (leapB y)) ∧ w = w' := by
  have HL := Lib.hid (leapB_iff y)
  have h4 := tmod_zero y 4
  have h1 := tmod_zero y 100
  have h5 := tmod_zero y 400
  by_cases c5 : y % 400 = 0
  · have e : leapB y = true := by rw [HL.out]; omega
    rw [e]
    rw [decide_eq_true c5] at h5
    clear HL h4 h1 c5 e
    go_enter Tryz.func26, Tryz.ntmps26
    go_wp2
    go_ret
    exact ⟨rfl, rfl⟩
  · rw [decide_eq_false c5] at h5
    by_cases c1 : y % 100 = 0
    · have e : leapB y = false := by rw [Bool.eq_false_iff]; intro g; rw [HL.out] at g; omega
      rw [e]
      rw [decide_eq_true c1] at h1
      clear HL h4 c5 e c1
      go_enter Tryz.func26, Tryz.ntmps26
      go_wp2
      go_ret
      exact ⟨rfl, rfl⟩
    · rw [decide_eq_false c1] at h1
      have e : leapB y = decide (y % 4 = 0) := by rw [Bool.eq_iff_iff, HL.out, decide_eq_true_iff]; omega
      rw [← h4] at e
      have HE := Lib.hid e
      clear HL h4 c5 e c1
      go_enter Tryz.func26, Tryz.ntmps26
      go_wp2
      go_ret
      exact ⟨ret_boolD HE.out.symm, rfl⟩

set_option maxHeartbeats 400000 in
theorem long_any (y m : Int) (w : World) :
    Calls Tryz.prog 95 #[.int .i64 y, .int .i64 m] w fun e w' => e = .returned (.int .i64 (mlen y m)) ∧ w = w' := by
  have HC := Lib.hid (refLeap_any y)
  unfold mlen
  by_cases h2 : m = 2
  · subst h2
    rw [if_pos rfl]
    generalize leapB y = lb at *
    cases lb
    all_goals
      go_enter Tryz.func95, Tryz.ntmps95
      go_wp2_with (go_at_call 26; ((with_reducible refine (HC.out _).mono ?_); rintro e w' ⟨rfl, rfl⟩))
      go_ret
      exact ⟨rfl, rfl⟩
  · rw [if_neg h2]
    by_cases h4 : m = 4 ∨ m = 6 ∨ m = 9 ∨ m = 11
    · rw [if_pos h4]
      rcases h4 with rfl | rfl | rfl | rfl
      all_goals
        clear h2
        go_enter Tryz.func95, Tryz.ntmps95
        go_wp2
        go_ret
        exact ⟨rfl, rfl⟩
    · rw [if_neg h4]
      have e2 : (m == 2) = false := by rw [beq_eq_false_iff_ne]; exact h2
      have e4 : (m == 4) = false := by rw [beq_eq_false_iff_ne]; omega
      have e6 : (m == 6) = false := by rw [beq_eq_false_iff_ne]; omega
      have e9 : (m == 9) = false := by rw [beq_eq_false_iff_ne]; omega
      have e11 : (m == 11) = false := by rw [beq_eq_false_iff_ne]; omega
      clear h2 h4
      go_enter Tryz.func95, Tryz.ntmps95
      go_wp2
      go_ret
      exact ⟨rfl, rfl⟩

theorem foy_step (z : Int) : foy (z + 1) = foy z + 365 + (if leapB z then 1 else 0) := by
  rw [foy_succ, mo12]; omega
end Go.Proofs.YtpgfadkkfofhcaaGreatDoor

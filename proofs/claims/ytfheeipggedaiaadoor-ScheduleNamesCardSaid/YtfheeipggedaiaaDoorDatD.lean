/- Layer 3: the reference's walks over numbers. -/
import Derived.Test.YtfheeipggedaiaaDoorDatC
namespace Go.Proofs.YtfheeipggedaiaaDoor
open Go Go.RowKit

set_option maxHeartbeats 400000 in
theorem in_any (n a b : Int) (r : Bool) (h : (a ≤ n ∧ n ≤ b) ↔ r = true) (w : World) :
    Calls Tryd.prog 37 #[.int .i64 n, .int .i64 a, .int .i64 b] w fun e w' => e = .returned (.bool r) ∧ w = w' := by
  by_cases h0 : a ≤ n
  · by_cases h1 : n ≤ b
    · obtain rfl : r = true := h.1 ⟨h0, h1⟩
      clear h
      go_enter Tryd.func37, Tryd.ntmps37
      go_wp2
      go_ret
      exact ⟨rfl, rfl⟩
    · obtain rfl : r = false := by cases r; rfl; exact absurd (h.2 rfl).2 h1
      have hd : decide (n ≤ b) = false := decide_eq_false h1
      clear h h1
      go_enter Tryd.func37, Tryd.ntmps37
      go_wp2
      go_ret
      exact ⟨rfl, rfl⟩
  · obtain rfl : r = false := by cases r; rfl; exact absurd (h.2 rfl).1 h0
    have hd : decide (a ≤ n) = false := decide_eq_false h0
    have hlt : n < a := by omega
    clear h h0
    go_enter Tryd.func37, Tryd.ntmps37
    go_wp2
    go_ret
    exact ⟨rfl, rfl⟩
set_option maxHeartbeats 400000 in
theorem day_any (n : Int) (r : Bool) (h : (0 ≤ n ∧ n ≤ 99999) ↔ r = true) (w : World) :
    Calls Tryd.prog 36 #[.int .i64 n] w fun e w' => e = .returned (.bool r) ∧ w = w' := by
  have HI := Lib.hid (in_any n 0 99999 r h)
  clear h
  go_enter Tryd.func36, Tryd.ntmps36
  go_wp2_with (go_at_call 37; ((with_reducible refine (HI.out _).mono ?_); rintro e w' ⟨rfl, rfl⟩))
  go_ret
  exact ⟨rfl, rfl⟩
set_option maxHeartbeats 400000 in
theorem refLeap_any (y : Int) (w : World) :
    Calls Tryd.prog 73 #[.int .i64 y] w fun e w' => e = .returned (.bool (leapB y)) ∧ w = w' := by
  have HL := Lib.hid (leapB_iff y)
  have h4 := tmod_zero y 4
  have h1 := tmod_zero y 100
  have h5 := tmod_zero y 400
  by_cases c5 : y % 400 = 0
  · have e : leapB y = true := by rw [HL.out]; omega
    rw [e]
    rw [decide_eq_true c5] at h5
    clear HL h4 h1 c5 e
    go_enter Tryd.func73, Tryd.ntmps73
    go_wp2
    go_ret
    exact ⟨rfl, rfl⟩
  · rw [decide_eq_false c5] at h5
    by_cases c1 : y % 100 = 0
    · have e : leapB y = false := by rw [Bool.eq_false_iff]; intro g; rw [HL.out] at g; omega
      rw [e]
      rw [decide_eq_true c1] at h1
      clear HL h4 c5 e c1
      go_enter Tryd.func73, Tryd.ntmps73
      go_wp2
      go_ret
      exact ⟨rfl, rfl⟩
    · rw [decide_eq_false c1] at h1
      have e : leapB y = decide (y % 4 = 0) := by rw [Bool.eq_iff_iff, HL.out, decide_eq_true_iff]; omega
      rw [← h4] at e
      have HE := Lib.hid e
      clear HL h4 c5 e c1
      go_enter Tryd.func73, Tryd.ntmps73
      go_wp2
      go_ret
      exact ⟨ret_boolD HE.out.symm, rfl⟩

set_option maxHeartbeats 400000 in
theorem long_any (y m : Int) (w : World) :
    Calls Tryd.prog 66 #[.int .i64 y, .int .i64 m] w fun e w' => e = .returned (.int .i64 (mlen y m)) ∧ w = w' := by
  have HC := Lib.hid (refLeap_any y)
  unfold mlen
  by_cases h2 : m = 2
  · subst h2
    rw [if_pos rfl]
    generalize leapB y = lb at *
    cases lb
    all_goals
      go_enter Tryd.func66, Tryd.ntmps66
      go_wp2_with (go_at_call 73; ((with_reducible refine (HC.out _).mono ?_); rintro e w' ⟨rfl, rfl⟩))
      go_ret
      exact ⟨rfl, rfl⟩
  · rw [if_neg h2]
    by_cases h4 : m = 4 ∨ m = 6 ∨ m = 9 ∨ m = 11
    · rw [if_pos h4]
      rcases h4 with rfl | rfl | rfl | rfl
      all_goals
        clear h2
        go_enter Tryd.func66, Tryd.ntmps66
        go_wp2
        go_ret
        exact ⟨rfl, rfl⟩
    · rw [if_neg h4]
      have e2 : (m == 2) = false := by rw [beq_eq_false_iff_ne]; exact h2
      have e4 : (m == 4) = false := by rw [beq_eq_false_iff_ne]; omega
      have e6 : (m == 6) = false := by rw [beq_eq_false_iff_ne]; omega
      have e9 : (m == 9) = false := by rw [beq_eq_false_iff_ne]; omega
      have e11 : (m == 11) = false := by rw [beq_eq_false_iff_ne]; omega
      clear h2 h4
      go_enter Tryd.func66, Tryd.ntmps66
      go_wp2
      go_ret
      exact ⟨rfl, rfl⟩

theorem foy_step (z : Int) : foy (z + 1) = foy z + 365 + (if leapB z then 1 else 0) := by
  rw [foy_succ, mo12]; omega
set_option maxRecDepth 100000 in
set_option maxHeartbeats 800000 in
theorem refOf_anyD (y m d : Int) (w : World) :
    Calls Tryd.prog 67 #[.int .i64 y, .int .i64 m, .int .i64 d] w fun e w' => e = .returned (.tuple #[.int .i64 (ofV y m d), .int .i64 (ofE y m d)]) ∧ w = w' := by
  unfold ofV ofE
  obtain ⟨r1, hr1⟩ : ∃ r, (1900 ≤ y ∧ y ≤ 2173) ↔ r = true := ⟨decide (1900 ≤ y ∧ y ≤ 2173), by simp⟩
  obtain ⟨r2, hr2⟩ : ∃ r, (1 ≤ m ∧ m ≤ 12) ↔ r = true := ⟨decide (1 ≤ m ∧ m ≤ 12), by simp⟩
  obtain ⟨r3, hr3⟩ : ∃ r, (1 ≤ d ∧ d ≤ mlen y m) ↔ r = true := ⟨decide (1 ≤ d ∧ d ≤ mlen y m), by simp⟩
  obtain ⟨r4, hr4⟩ : ∃ r, (dayI y m d ≤ 99999) ↔ r = true := ⟨decide (dayI y m d ≤ 99999), by simp⟩
  have HY := Lib.hid (in_any y 1900 2173 r1 hr1)
  have HM := Lib.hid (in_any m 1 12 r2 hr2)
  have HN := Lib.hid (in_any d 1 (mlen y m) r3 hr3)
  have HL := Lib.hid (long_any y m)
  have hy : ymB y m = (r1 && r2) := by rw [Bool.eq_iff_iff, Bool.and_eq_true, ← hr1, ← hr2, ymB_iff]; omega
  have he : okB y m d = (r1 && r2 && r3 && r4) := by
    rw [Bool.eq_iff_iff, Bool.and_eq_true, Bool.and_eq_true, Bool.and_eq_true, ← hr1, ← hr2, ← hr3, ← hr4, okB_iff]; omega
  rw [he]
  by_cases hb : (r1 && r2 && r3) = true
  · simp only [Bool.and_eq_true] at hb
    obtain ⟨⟨rfl, rfl⟩, rfl⟩ := hb
    obtain ⟨y0, y1⟩ := hr1.2 rfl
    obtain ⟨m0, m1⟩ := hr2.2 rfl
    obtain ⟨d0, d1⟩ := hr3.2 rfl
    obtain ⟨i0, i1⟩ := dayI_bd hy d0 d1
    have HI := Lib.hid (show dayI y m d = foy y + mo y (m - 1).toNat + d - 1 from rfl)
    have HD := Lib.hid (day_any (dayI y m d) r4 (by rw [← hr4]; exact ⟨fun h => h.2, fun h => ⟨i0, h⟩⟩))
    have HK := Lib.hid (fun (k : Nat) => long_any y ((k : Int) + 1))
    have l31 := (mlen_bd y m).2
    have d31 : d ≤ 31 := by omega
    clear hr1 hr2 hr3 hr4 hy he d1 l31
    generalize mlen y m = l at *
    generalize dayI y m d = N at *
    obtain ⟨n, hn⟩ : ∃ n : Nat, m = (n : Int) + 1 := ⟨(m - 1).toNat, by omega⟩
    subst hn
    have hn12 : n ≤ 11 := by omega
    have HI2 : Hid (N = foy y + mo y n + d - 1) := by
      have := HI.out; rw [show ((n : Int) + 1 - 1).toNat = n by omega] at this; exact this
    have HF := Lib.hid (foy_bd y y0 (by omega))
    clear HI m0 m1
    go_enter Tryd.func67, Tryd.ntmps67
    go_wp2_with (first
      | (go_at_call 37; ((with_reducible refine (HY.out _).mono ?_); rintro e w' ⟨rfl, rfl⟩))
      | (go_at_call 37; ((with_reducible refine (HM.out _).mono ?_); rintro e w' ⟨rfl, rfl⟩))
      | (go_at_call 37; ((with_reducible refine (HN.out _).mono ?_); rintro e w' ⟨rfl, rfl⟩))
      | (go_at_call 66; ((with_reducible refine (HL.out _).mono ?_); rintro e w' ⟨rfl, rfl⟩)))
    go_loop [8, 9] (fun a i => ∃ z : Int, i = .int .i64 z ∧ 1900 ≤ z ∧ z ≤ y ∧ a = .int .i64 (d - 1 + foy z)) (fun _ i => (y - intOf i).toNat)
    case atStart => exact ⟨1900, rfl, by omega, y0, int_eqD (by rw [foy_1900]; omega)⟩
    case round =>
      obtain ⟨z, rfl, z0, z1, rfl⟩ := hrel
      obtain ⟨f0, f1⟩ := foy_bd z z0 (by omega)
      by_cases hz : z < y
      · have HC := Lib.hid (refLeap_any z)
        have HS := Lib.hid (foy_step z)
        generalize foy z = f at *
        generalize leapB z = lb at *
        cases lb
        all_goals
          go_wp2_with (go_at_call 73; ((with_reducible refine (HC.out _).mono ?_); rintro e w' ⟨rfl, rfl⟩))
          go_round
          case rel => exact ⟨z + 1, rfl, by omega, by omega, int_eqD (by rw [HS.out]; simp <;> omega)⟩
          case measure => simp [intOf]; omega
      · obtain rfl : z = y := by omega
        generalize hff : foy z = f at *
        clear hff
        go_wp2
        go_loop [8, 10] (fun a i => ∃ k : Nat, k ≤ n ∧ i = .int .i64 ((k : Int) + 1) ∧ a = .int .i64 (d - 1 + f + mo z k)) (fun _ i => n + 1 - (intOf i).toNat)
        case atStart => exact ⟨0, Nat.zero_le _, rfl, int_eqD (by simp [mo])⟩
        case round =>
          obtain ⟨k, hk, rfl, rfl⟩ := hrel
          obtain ⟨b1, b0⟩ := mo_le z k
          by_cases hlt : k < n
          · have HC := Lib.hid (HK.out k)
            obtain ⟨l0, l1⟩ := mlen_bd z ((k : Int) + 1)
            have HS := Lib.hid (show mo z (k + 1) = mo z k + mlen z ((k : Int) + 1) from rfl)
            have b2 : mo z k ≤ 372 := by omega
            have hlt' : (k : Int) + 1 < (n : Int) + 1 := by omega
            clear HK HI2 HD
            generalize mlen z ((k : Int) + 1) = l at *
            generalize mo z k = s at *
            go_wp2_with (go_at_call 66; ((with_reducible refine (HC.out _).mono ?_); rintro e w' ⟨rfl, rfl⟩))
            go_round
            case rel => exact ⟨k + 1, by omega, int_eqD (by omega), int_eqD (by rw [HS.out]; omega)⟩
            case measure => simp [intOf]; omega
          · obtain rfl : k = n := by omega
            have e : d - 1 + f + mo z k = N := by have := HI2.out; omega
            rw [e]
            clear HK HI2 e HF
            cases r4
            all_goals
              go_wp2_with (go_at_call 36; ((with_reducible refine (HD.out _).mono ?_); rintro e w' ⟨rfl, rfl⟩))
              go_ret2
              exact ⟨rfl, rfl⟩
  · have hb' : (r1 && r2 && r3) = false := by simpa using hb
    rw [hb']
    clear hb hr1 hr2 hr3 hr4 hy he
    generalize mlen y m = l at *
    cases r1 <;> cases r2 <;> cases r3 <;> first | (exact absurd hb' (by decide)) | skip
    all_goals
      clear hb'
      go_enter Tryd.func67, Tryd.ntmps67
      go_wp2_with (first
        | (go_at_call 37; ((with_reducible refine (HY.out _).mono ?_); rintro e w' ⟨rfl, rfl⟩))
        | (go_at_call 37; ((with_reducible refine (HM.out _).mono ?_); rintro e w' ⟨rfl, rfl⟩))
        | (go_at_call 37; ((with_reducible refine (HN.out _).mono ?_); rintro e w' ⟨rfl, rfl⟩))
        | (go_at_call 66; ((with_reducible refine (HL.out _).mono ?_); rintro e w' ⟨rfl, rfl⟩)))
      go_ret2
      exact ⟨rfl, rfl⟩
end Go.Proofs.YtfheeipggedaiaaDoor

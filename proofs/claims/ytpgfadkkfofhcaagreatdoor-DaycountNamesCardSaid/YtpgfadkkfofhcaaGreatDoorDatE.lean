/- Layer 3: the reference's walks: Parts, Weekday, AddMonths. -/
import Derived.Test.YtpgfadkkfofhcaaGreatDoorDatD
namespace Go.Proofs.YtpgfadkkfofhcaaGreatDoor
open Go Go.RowKit

set_option maxRecDepth 100000 in
set_option maxHeartbeats 800000 in
theorem refParts_in (Y M D n : Int) (h : IsDate Y M D n) (hn : n ≤ 99999) (w : World) :
    Calls Tryz.prog 65 #[.int .i64 n] w fun e w' => e = .returned (.tuple #[.int .i64 Y, .int .i64 M, .int .i64 D, .int .i64 0]) ∧ w = w' := by
  have HI := Lib.hid h
  have n0 := h.n0
  have HD := Lib.hid (day_any n true (by simp; omega))
  have HL := Lib.hid long_any
  clear h
  go_enter Tryz.func65, Tryz.ntmps65
  go_wp2_with (go_at_call 44; ((with_reducible refine (HD.out _).mono ?_); rintro e w' ⟨rfl, rfl⟩))
  go_loop [0, 6, 7] (fun a y m => ∃ (d z : Int) (k : Nat), a = .int .i64 d ∧ y = .int .i64 z ∧ m = .int .i64 ((k : Int) + 1) ∧ 1900 ≤ z ∧ k ≤ 11 ∧ 0 ≤ d ∧ n = foy z + mo z k + d) (fun a _ _ => (intOf a).toNat)
  case atStart => exact ⟨n, 1900, 0, rfl, rfl, rfl, by omega, by omega, n0, by rw [foy_1900]; simp [mo]⟩
  case round =>
    obtain ⟨d, z, k, rfl, rfl, rfl, z0, k1, d0, he⟩ := hrel
    have hz3 : z ≤ 3000 := by
      have := (mo_le z k).2
      unfold foy at he; omega
    have hd3 : d ≤ 99999 := by
      have := (mo_le z k).2
      have := foy_mono 1900 z z0
      rw [foy_1900] at this; omega
    obtain ⟨l0, l1⟩ := mlen_bd z ((k : Int) + 1)
    have HC := Lib.hid (HL.out z ((k : Int) + 1))
    by_cases hge : mlen z ((k : Int) + 1) ≤ d
    · have HS : Hid (n = foy z + mo z (k + 1) + (d - mlen z ((k : Int) + 1))) := by
        have e : mo z (k + 1) = mo z k + mlen z ((k : Int) + 1) := rfl
        show _ = _
        rw [e]; omega
      have HT : k = 11 → Hid (n = foy (z + 1) + mo (z + 1) 0 + (d - mlen z ((k : Int) + 1))) := by
        intro hk; subst hk
        have h1 : n = foy z + mo z 12 + (d - mlen z (((11 : Nat) : Int) + 1)) := HS.out
        have h2 := foy_succ z
        show _ = _
        rw [h2, show mo (z + 1) 0 = 0 from rfl]; omega
      clear he HI HL
      generalize mlen z ((k : Int) + 1) = l at *
      by_cases hk : k = 11
      · have HT2 := HT hk
        clear HT
        subst hk
        rw [show ((11 : Nat) : Int) + 1 = 12 from rfl] at HC
        clear HS
        go_wp2_with (go_at_call 95; ((with_reducible refine (HC.out _).mono ?_); rintro e w' ⟨rfl, rfl⟩))
        go_round
        case rel => exact ⟨d - l, z + 1, 0, rfl, rfl, rfl, by omega, by omega, by omega, HT2.out⟩
        case measure => simp [intOf]; omega
      · clear HT
        have hk' : (k : Int) + 1 + 1 ≤ 12 := by omega
        go_wp2_with (go_at_call 95; ((with_reducible refine (HC.out _).mono ?_); rintro e w' ⟨rfl, rfl⟩))
        go_round
        case rel => exact ⟨d - l, z, k + 1, rfl, rfl, int_eqD (by omega), by omega, by omega, by omega, HS.out⟩
        case measure => simp [intOf]; omega
    · have hdate : IsDate z ((k : Int) + 1) (d + 1) n := ⟨z0, by omega, by omega, by omega, by omega, by rw [show ((k : Int) + 1 - 1).toNat = k by omega]; omega⟩
      obtain ⟨e1, e2, e3⟩ := hdate.uniq HI.out
      have HE1 := Lib.hid e1
      have HE2 := Lib.hid e2
      have HE3 := Lib.hid e3
      have hlt : d < mlen z ((k : Int) + 1) := by omega
      clear hge hdate e1 e2 e3 he HI HL
      generalize mlen z ((k : Int) + 1) = l at *
      go_wp2_with (go_at_call 95; ((with_reducible refine (HC.out _).mono ?_); rintro e w' ⟨rfl, rfl⟩))
      refine bodyPost_ret (results_tmp4 rfl _ _ _) rfl ?_
      exact ⟨by rw [← HE1.out, ← HE2.out, ← HE3.out]; rfl, rfl⟩
set_option maxHeartbeats 400000 in
theorem refParts_out (n : Int) (h : n < 0 ∨ 99999 < n) (w : World) :
    Calls Tryz.prog 65 #[.int .i64 n] w fun e w' => e = .returned (.tuple #[.int .i64 0, .int .i64 0, .int .i64 0, .int .i64 2]) ∧ w = w' := by
  have HD := Lib.hid (day_any n false (by simp; omega))
  clear h
  go_enter Tryz.func65, Tryz.ntmps65
  go_wp2_with (go_at_call 44; ((with_reducible refine (HD.out _).mono ?_); rintro e w' ⟨rfl, rfl⟩))
  refine bodyPost_ret (results_tmp4 rfl _ _ _) rfl ?_
  exact ⟨rfl, rfl⟩

theorem mv_of {y m k z x : Int} (h : 12 * z + x = 12 * y + m + k) (x0 : 1 ≤ x) (x1 : x ≤ 12) : mvY y m k = z ∧ mvM y m k = x := by
  unfold mvY mvM; omega
end Go.Proofs.YtpgfadkkfofhcaaGreatDoor

/- Layer 5: the reference's walks: ratio, Fraction. -/
import Derived.Test.YtpgfadkkfofhcaaGreatDoorDcG
import Derived.Test.YtpgfadkkfofhcaaGreatDoorRatAk
namespace Go.Proofs.YtpgfadkkfofhcaaGreatDoor
open Go Go.RowKit

set_option maxRecDepth 100000 in
set_option maxHeartbeats 1600000 in
theorem refratio_q (n d : Int) (hd : d ≠ 0) (n0 : -999999 ≤ n) (n1 : n ≤ 999999) (d0 : -999999 ≤ d) (d1 : d ≤ 999999) (q : Rat) (hq : Rat.divInt n d = q) (w : World) :
    Calls Tryz.prog 25 #[.int .i64 n, .int .i64 d] w (StrR (rq q) w) := by
  have ln := (dg6 n0 n1).lim (by decide)
  have ld := (dg6 d0 d1).lim (by decide)
  have h := fun W => refMake_any (rep n) (rep d) (rep_small ln) (rep_small ld) W
  simp only [rep_data, mkS_ok (chk_rep ln ld) (by rw [num_itoa]; exact hd), num_itoa, qN_rat hd, qD_rat hd, hq] at h
  have J3 := Lib.hid (show ∀ W, Calls Tryz.prog 46 #[.string (rep n), .string (rep d)] W (StE (rq q) 0 W) from h)
  have J1 := Lib.hid (fun W => refOf_any n (by omega) (by omega) W)
  have J2 := Lib.hid (fun W => refOf_any d (by omega) (by omega) W)
  clear h ln ld hq hd
  go_enter Tryz.func25, Tryz.ntmps25
  go_wp2_with (first
    | (go_at_call 47; ((with_reducible refine (J1.out _).mono ?_); rintro e w1 ⟨rfl, b⟩; have B1 := Lib.hid b; clear b))
    | (go_at_call 47; ((with_reducible refine (J2.out _).mono ?_); rintro e w2 ⟨rfl, b⟩; have B2 := Lib.hid (btE B1.out b); clear b))
    | (go_at_call 46; ((refine (J3.out _).mono ?_); rintro e w3 ⟨rfl, b⟩; have B3 := Lib.hid (btE B2.out b); clear b)))
  go_ret
  exact ⟨rfl, B3.out⟩
set_option maxRecDepth 100000 in
set_option maxHeartbeats 1600000 in
theorem reffrac_out (r n1 n2 : Int) (r0 : 0 ≤ r) (r2 : r ≤ 255) (h : 4 < r ∨ n1 < 0 ∨ 99999 < n1 ∨ n2 < 0 ∨ 99999 < n2) (w : World) :
    Calls Tryz.prog 13 #[.int .u8 r, .int .i64 n1, .int .i64 n2] w (StE ⟨#[]⟩ 2 w) := by
  have J1 := Lib.hid (refDays_out r n1 n2 r0 r2 h w)
  clear h
  go_enter Tryz.func13, Tryz.ntmps13
  go_wp2_with (go_at_call 24; ((with_reducible refine J1.out.mono ?_); rintro e w1 ⟨rfl, rfl⟩))
  go_ret2
  exact ⟨rfl, Below.refl _ _⟩
set_option maxRecDepth 100000 in
set_option maxHeartbeats 1600000 in
theorem reffrac_div (r n1 n2 v k : Int) (R : ByteArray) (hr : (r = 0 ∧ 365 = k) ∨ (r = 1 ∧ 360 = k) ∨ (r = 2 ∧ 360 = k) ∨ (r = 4 ∧ 360 = k)) (w : World)
    (H1 : Calls Tryz.prog 24 #[.int .u8 r, .int .i64 n1, .int .i64 n2] w (DysW v 0 w))
    (H2 : ∀ W, Calls Tryz.prog 25 #[.int .i64 v, .int .i64 k] W (StrR R W)) :
    Calls Tryz.prog 13 #[.int .u8 r, .int .i64 n1, .int .i64 n2] w (StE R 0 w) := by
  have J1 := Lib.hid H1
  have J2 := Lib.hid H2
  clear H1 H2
  rcases hr with ⟨rfl, rfl⟩ | ⟨rfl, rfl⟩ | ⟨rfl, rfl⟩ | ⟨rfl, rfl⟩
  all_goals
    go_enter Tryz.func13, Tryz.ntmps13
    go_wp2_with (first
      | (go_at_call 24; ((with_reducible refine J1.out.mono ?_); rintro e w1 ⟨rfl, rfl⟩))
      | (go_at_call 25; ((with_reducible refine (J2.out _).mono ?_); rintro e w2 ⟨rfl, b⟩; have B2 := Lib.hid b; clear b)))
    go_ret2
    exact ⟨rfl, B2.out⟩
set_option maxRecDepth 100000 in
set_option maxHeartbeats 3200000 in
theorem reffrac_act_0 (n1 n2 v : Int) (L C : Int → Int) (A B R : ByteArray) (a0 : 0 ≤ n1) (a1 : n1 ≤ 99999) (c0 : 0 ≤ n2) (c1 : n2 ≤ 99999) (hlt : n1 ≤ n2)
    (hS : ∀ z, 1900 ≤ z → z ≤ 2173 → L (z + 1) = L z + (if leapB z then max (min n2 (foy (z + 1)) - max n1 (foy z)) 0 else 0) ∧ C (z + 1) = C z + (if leapB z then 0 else max (min n2 (foy (z + 1)) - max n1 (foy z)) 0))
    (hB : ∀ z, 1900 ≤ z → z ≤ 2174 → 0 ≤ L z ∧ L z ≤ 200000 ∧ 0 ≤ C z ∧ C z ≤ 200000) (l0 : L 1900 = 0) (k0 : C 1900 = 0) (w : World)
    (H1 : Calls Tryz.prog 24 #[.int .u8 3, .int .i64 n1, .int .i64 n2] w (DysW v 0 w))
    (H2 : ∀ W, Calls Tryz.prog 25 #[.int .i64 (C 2174), .int .i64 365] W (StrR A W))
    (H3 : ∀ W, Calls Tryz.prog 25 #[.int .i64 (L 2174), .int .i64 366] W (StrR B W))
    (H4 : ∀ W, Calls Tryz.prog 27 #[.string A, .string B] W (StE R 0 W)) :
    Calls Tryz.prog 13 #[.int .u8 3, .int .i64 n1, .int .i64 n2] w (StE R 0 w) := by
  have J1 := Lib.hid H1
  have J2 := Lib.hid H2
  have J3 := Lib.hid H3
  have J4 := Lib.hid H4
  have HS := Lib.hid hS
  have HB := Lib.hid hB
  have HL := Lib.hid refLeap_any
  have HL0 := Lib.hid l0
  have HK0 := Lib.hid k0
  clear H1 H2 H3 H4 hS hB l0 k0
  go_enter Tryz.func13, Tryz.ntmps13
  go_wp2_with (first
    | (go_at_call 24; ((with_reducible refine J1.out.mono ?_); rintro e w1 ⟨rfl, rfl⟩)))
  go_loop [13, 14, 15, 16] (fun c l b y => ∃ z : Int, y = .int .i64 z ∧ b = .int .i64 (foy z) ∧ l = .int .i64 (L z) ∧ c = .int .i64 (C z) ∧ 1900 ≤ z ∧ z ≤ 2174) (fun _ _ _ y => (2174 - intOf y).toNat)
  case atStart => exact ⟨1900, rfl, by rw [foy_1900], by rw [HL0.out], by rw [HK0.out], by omega, by omega⟩
  case round =>
    obtain ⟨z, rfl, rfl, rfl, rfl, z0, z1⟩ := hrel
    obtain ⟨b0, b1, b2, b3⟩ := HB.out z z0 z1
    obtain ⟨f0, f1⟩ := foy_bd z z0 (by omega)
    by_cases hz : z ≤ 2173
    · have hs := HS.out z z0 hz
      have hf := foy_len z
      have HC := Lib.hid (HL.out z)
      cases hlp : leapB z
      · rw [hlp] at hs hf HC
        simp only [Bool.false_eq_true, if_false, Int.add_zero] at hs hf
        rw [hf] at hs
        have HS1 := Lib.hid hs.1
        have HS2 := Lib.hid hs.2
        have HF := Lib.hid hf
        clear hs hf hlp HL HS HB
        generalize foy z = f at *
        generalize L z = l at *
        generalize C z = c at *
        go_wp2_with (go_at_call 26; ((with_reducible refine (HC.out _).mono ?_); rintro e w1 ⟨rfl, rfl⟩))
        go_round
        case rel => exact ⟨z + 1, rfl, by rw [HF.out], by rw [HS1.out], by rw [HS2.out], by omega, by omega⟩
        case measure => simp [intOf]; omega
      · rw [hlp] at hs hf HC
        simp only [if_true, Int.add_zero] at hs hf
        rw [hf] at hs
        have HS1 := Lib.hid hs.1
        have HS2 := Lib.hid hs.2
        have HF := Lib.hid hf
        clear hs hf hlp HL HS HB
        generalize foy z = f at *
        generalize L z = l at *
        generalize C z = c at *
        go_wp2_with (go_at_call 26; ((with_reducible refine (HC.out _).mono ?_); rintro e w1 ⟨rfl, rfl⟩))
        go_round
        case rel => exact ⟨z + 1, rfl, by rw [HF.out], by rw [HS1.out], by rw [HS2.out], by omega, by omega⟩
        case measure => simp [intOf]; omega
    · obtain rfl : z = 2174 := by omega
      clear HS HB HL HL0 HK0
      generalize L 2174 = l at *
      generalize C 2174 = c at *
      generalize foy 2174 = f at *
      go_wp2_with (first
        | (go_at_call 25; ((with_reducible refine (J2.out _).mono ?_); rintro e w1 ⟨rfl, b⟩; have B1 := Lib.hid b; clear b))
        | (go_at_call 25; ((with_reducible refine (J3.out _).mono ?_); rintro e w2 ⟨rfl, b⟩; have B2 := Lib.hid (btE B1.out b); clear b))
        | (go_at_call 27; ((with_reducible refine (J4.out _).mono ?_); rintro e w3 ⟨rfl, b⟩; have B3 := Lib.hid (btE B2.out b); clear b)))
      go_ret2
      exact ⟨rfl, B3.out⟩
set_option maxRecDepth 100000 in
set_option maxHeartbeats 3200000 in
theorem reffrac_act_1 (n1 n2 v : Int) (L C : Int → Int) (A B R : ByteArray) (a0 : 0 ≤ n1) (a1 : n1 ≤ 99999) (c0 : 0 ≤ n2) (c1 : n2 ≤ 99999) (hlt : n2 < n1)
    (hS : ∀ z, 1900 ≤ z → z ≤ 2173 → L (z + 1) = L z + (if leapB z then max (min n1 (foy (z + 1)) - max n2 (foy z)) 0 else 0) ∧ C (z + 1) = C z + (if leapB z then 0 else max (min n1 (foy (z + 1)) - max n2 (foy z)) 0))
    (hB : ∀ z, 1900 ≤ z → z ≤ 2174 → 0 ≤ L z ∧ L z ≤ 200000 ∧ 0 ≤ C z ∧ C z ≤ 200000) (l0 : L 1900 = 0) (k0 : C 1900 = 0) (w : World)
    (H1 : Calls Tryz.prog 24 #[.int .u8 3, .int .i64 n1, .int .i64 n2] w (DysW v 0 w))
    (H2 : ∀ W, Calls Tryz.prog 25 #[.int .i64 (-C 2174), .int .i64 365] W (StrR A W))
    (H3 : ∀ W, Calls Tryz.prog 25 #[.int .i64 (-L 2174), .int .i64 366] W (StrR B W))
    (H4 : ∀ W, Calls Tryz.prog 27 #[.string A, .string B] W (StE R 0 W)) :
    Calls Tryz.prog 13 #[.int .u8 3, .int .i64 n1, .int .i64 n2] w (StE R 0 w) := by
  have J1 := Lib.hid H1
  have J2 := Lib.hid H2
  have J3 := Lib.hid H3
  have J4 := Lib.hid H4
  have HS := Lib.hid hS
  have HB := Lib.hid hB
  have HL := Lib.hid refLeap_any
  have HL0 := Lib.hid l0
  have HK0 := Lib.hid k0
  clear H1 H2 H3 H4 hS hB l0 k0
  go_enter Tryz.func13, Tryz.ntmps13
  go_wp2_with (first
    | (go_at_call 24; ((with_reducible refine J1.out.mono ?_); rintro e w1 ⟨rfl, rfl⟩)))
  go_loop [13, 14, 15, 16] (fun c l b y => ∃ z : Int, y = .int .i64 z ∧ b = .int .i64 (foy z) ∧ l = .int .i64 (L z) ∧ c = .int .i64 (C z) ∧ 1900 ≤ z ∧ z ≤ 2174) (fun _ _ _ y => (2174 - intOf y).toNat)
  case atStart => exact ⟨1900, rfl, by rw [foy_1900], by rw [HL0.out], by rw [HK0.out], by omega, by omega⟩
  case round =>
    obtain ⟨z, rfl, rfl, rfl, rfl, z0, z1⟩ := hrel
    obtain ⟨b0, b1, b2, b3⟩ := HB.out z z0 z1
    obtain ⟨f0, f1⟩ := foy_bd z z0 (by omega)
    by_cases hz : z ≤ 2173
    · have hs := HS.out z z0 hz
      have hf := foy_len z
      have HC := Lib.hid (HL.out z)
      cases hlp : leapB z
      · rw [hlp] at hs hf HC
        simp only [Bool.false_eq_true, if_false, Int.add_zero] at hs hf
        rw [hf] at hs
        have HS1 := Lib.hid hs.1
        have HS2 := Lib.hid hs.2
        have HF := Lib.hid hf
        clear hs hf hlp HL HS HB
        generalize foy z = f at *
        generalize L z = l at *
        generalize C z = c at *
        go_wp2_with (go_at_call 26; ((with_reducible refine (HC.out _).mono ?_); rintro e w1 ⟨rfl, rfl⟩))
        go_round
        case rel => exact ⟨z + 1, rfl, by rw [HF.out], by rw [HS1.out], by rw [HS2.out], by omega, by omega⟩
        case measure => simp [intOf]; omega
      · rw [hlp] at hs hf HC
        simp only [if_true, Int.add_zero] at hs hf
        rw [hf] at hs
        have HS1 := Lib.hid hs.1
        have HS2 := Lib.hid hs.2
        have HF := Lib.hid hf
        clear hs hf hlp HL HS HB
        generalize foy z = f at *
        generalize L z = l at *
        generalize C z = c at *
        go_wp2_with (go_at_call 26; ((with_reducible refine (HC.out _).mono ?_); rintro e w1 ⟨rfl, rfl⟩))
        go_round
        case rel => exact ⟨z + 1, rfl, by rw [HF.out], by rw [HS1.out], by rw [HS2.out], by omega, by omega⟩
        case measure => simp [intOf]; omega
    · obtain rfl : z = 2174 := by omega
      clear HS HB HL HL0 HK0
      generalize L 2174 = l at *
      generalize C 2174 = c at *
      generalize foy 2174 = f at *
      go_wp2_with (first
        | (go_at_call 25; ((with_reducible refine (J2.out _).mono ?_); rintro e w1 ⟨rfl, b⟩; have B1 := Lib.hid b; clear b))
        | (go_at_call 25; ((with_reducible refine (J3.out _).mono ?_); rintro e w2 ⟨rfl, b⟩; have B2 := Lib.hid (btE B1.out b); clear b))
        | (go_at_call 27; ((with_reducible refine (J4.out _).mono ?_); rintro e w3 ⟨rfl, b⟩; have B3 := Lib.hid (btE B2.out b); clear b)))
      go_ret2
      exact ⟨rfl, B3.out⟩
end Go.Proofs.YtpgfadkkfofhcaaGreatDoor

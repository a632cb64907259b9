/- Layer 3: the program's walks: Length, Of, parts, Parts, Weekday. -/
import Derived.Test.YtfheeipggedaiaaDoorDatA
namespace Go.Proofs.YtfheeipggedaiaaDoor
open Go Go.RowKit

theorem ret_pair {a b c d : Int} (h : a = b) (h' : c = d) : Ending.returned (.tuple #[.int .i64 a, .int .i64 c]) = .returned (.tuple #[.int .i64 b, .int .i64 d]) := by rw [h, h']
/-- What Length answers. -/
def lnV (y m : Int) : Int := if ymB y m then mlen y m else 0
def lnE (y m : Int) : Int := if ymB y m then 0 else 2

set_option maxHeartbeats 400000 in
theorem length2_ok (y m : Int) (h : ymB y m = true) (w : World) (hv : VarD w) :
    Calls Tryd.prog 45 #[.int .i64 y, .int .i64 m] w fun e w' => e = .returned (.tuple #[.int .i64 (mlen y m), .int .i64 0]) ∧ w = w' := by
  rw [ymB_iff] at h
  obtain ⟨y0, y1, m0, m1⟩ := h
  have HL := Lib.hid (length_any y m m0 m1 w hv)
  clear hv
  generalize mlen y m = l at *
  go_enter Tryd.func45, Tryd.ntmps45
  go_wp2_with (go_at_call 43; ((with_reducible refine HL.out.mono ?_); rintro e w' ⟨rfl, rfl⟩))
  go_ret2
  exact ⟨rfl, rfl⟩
set_option maxHeartbeats 400000 in
theorem length2_bad (y m : Int) (h : ymB y m = false) (w : World) :
    Calls Tryd.prog 45 #[.int .i64 y, .int .i64 m] w fun e w' => e = .returned (.tuple #[.int .i64 0, .int .i64 2]) ∧ w = w' := by
  have h' : y < 1900 ∨ (1900 ≤ y ∧ 2173 < y) ∨ (1900 ≤ y ∧ y ≤ 2173 ∧ m < 1) ∨ (1900 ≤ y ∧ y ≤ 2173 ∧ 1 ≤ m ∧ 12 < m) := by
    have := (ymB_iff y m); rw [h] at this; simp at this; omega
  clear h
  rcases h' with h1 | ⟨h1, h2⟩ | ⟨h1, h2, h3⟩ | ⟨h1, h2, h3, h4⟩
  all_goals
    go_enter Tryd.func45, Tryd.ntmps45
    go_wp2
    go_ret2
    exact ⟨rfl, rfl⟩
theorem length2_any (y m : Int) (w : World) (hv : VarD w) :
    Calls Tryd.prog 45 #[.int .i64 y, .int .i64 m] w fun e w' => e = .returned (.tuple #[.int .i64 (lnV y m), .int .i64 (lnE y m)]) ∧ w = w' := by
  unfold lnV lnE
  cases h : ymB y m
  · exact length2_bad y m h w
  · exact length2_ok y m h w hv

set_option maxHeartbeats 400000 in
theorem isDay_in (n : Int) (h0 : 0 ≤ n) (h1 : n ≤ 99999) (w : World) :
    Calls Tryd.prog 41 #[.int .i64 n] w fun e w' => e = .returned (.bool true) ∧ w = w' := by
  go_enter Tryd.func41, Tryd.ntmps41
  go_wp2
  go_ret
  exact ⟨rfl, rfl⟩
set_option maxHeartbeats 400000 in
theorem isDay_out (n : Int) (h : n < 0 ∨ 99999 < n) (w : World) :
    Calls Tryd.prog 41 #[.int .i64 n] w fun e w' => e = .returned (.bool false) ∧ w = w' := by
  have h' : n < 0 ∨ (0 ≤ n ∧ 99999 < n) := by omega
  clear h
  rcases h' with h | ⟨h0, h⟩
  · go_enter Tryd.func41, Tryd.ntmps41
    go_wp2
    go_ret
    exact ⟨rfl, rfl⟩
  · have hd : decide (n ≤ 99999) = false := decide_eq_false (by omega)
    go_enter Tryd.func41, Tryd.ntmps41
    go_wp2
    go_ret
    exact ⟨rfl, rfl⟩

set_option maxHeartbeats 800000 in
theorem of_anyD (y m d : Int) (w : World) (hv : VarD w) :
    Calls Tryd.prog 46 #[.int .i64 y, .int .i64 m, .int .i64 d] w fun e w' => e = .returned (.tuple #[.int .i64 (ofV y m d), .int .i64 (ofE y m d)]) ∧ w = w' := by
  unfold ofV ofE
  cases h : ymB y m
  · have ho : okB y m d = false := by unfold okB; rw [h]; rfl
    rw [ho]
    have HL := Lib.hid (length2_bad y m h w)
    clear h ho hv
    go_enter Tryd.func46, Tryd.ntmps46
    go_wp2_with (go_at_call 45; ((with_reducible refine HL.out.mono ?_); rintro e w' ⟨rfl, rfl⟩))
    go_ret2
    exact ⟨rfl, rfl⟩
  · have hym := (ymB_iff y m).1 h
    have HL := Lib.hid (length2_ok y m h w hv)
    obtain ⟨b0, b1⟩ := mlen_bd y m
    by_cases h0 : 1 ≤ d ∧ d ≤ mlen y m
    · obtain ⟨c0, c1⟩ := h0
      obtain ⟨i0, i1⟩ := dayI_bd h c0 c1
      have HM := Lib.hid (firstOfMonth_any y m (by omega) (by omega) hym.2.2.1 hym.2.2.2 w hv)
      have he : dayI y m d = foy y + mo y (m - 1).toNat + d - 1 := rfl
      have ho : okB y m d = decide (dayI y m d ≤ 99999) := by unfold okB; rw [h, decide_eq_true c0, decide_eq_true c1]; rfl
      rw [ho]
      have f0 := (foy_bd y (by omega) (by omega))
      have f1 := mo_le y (m - 1).toNat
      have g0 : 0 ≤ foy y + mo y (m - 1).toNat := by omega
      have g1 : foy y + mo y (m - 1).toNat ≤ 300000 := by omega
      clear f0 f1 hym h ho hv
      generalize foy y + mo y (m - 1).toNat = f at *
      generalize mlen y m = l at *
      rw [he] at i0 i1 ⊢
      clear he
      by_cases hd : f + d - 1 ≤ 99999
      · rw [decide_eq_true hd]
        have HD := Lib.hid (isDay_in (f + d - 1) i0 hd w)
        go_enter Tryd.func46, Tryd.ntmps46
        go_wp2_with (first
          | (go_at_call 45; ((with_reducible refine HL.out.mono ?_); rintro e w' ⟨rfl, rfl⟩))
          | (go_at_call 61; ((with_reducible refine HM.out.mono ?_); rintro e w' ⟨rfl, rfl⟩))
          | (go_at_call 41; ((with_reducible refine HD.out.mono ?_); rintro e w' ⟨rfl, rfl⟩)))
        go_ret2
        exact ⟨rfl, rfl⟩
      · rw [decide_eq_false hd]
        have HD := Lib.hid (isDay_out (f + d - 1) (.inr (by omega)) w)
        clear hd
        go_enter Tryd.func46, Tryd.ntmps46
        go_wp2_with (first
          | (go_at_call 45; ((with_reducible refine HL.out.mono ?_); rintro e w' ⟨rfl, rfl⟩))
          | (go_at_call 61; ((with_reducible refine HM.out.mono ?_); rintro e w' ⟨rfl, rfl⟩))
          | (go_at_call 41; ((with_reducible refine HD.out.mono ?_); rintro e w' ⟨rfl, rfl⟩)))
        go_ret2
        exact ⟨rfl, rfl⟩
    · have ho : okB y m d = false := by
        rw [Bool.eq_false_iff]; intro ht; rw [okB_iff] at ht; omega
      rw [ho]
      have h1 : d < 1 ∨ (1 ≤ d ∧ mlen y m < d) := by omega
      clear h0 ho hym h hv
      generalize mlen y m = l at *
      rcases h1 with h1 | ⟨h0, h1⟩
      all_goals
        go_enter Tryd.func46, Tryd.ntmps46
        go_wp2_with (go_at_call 45; ((with_reducible refine HL.out.mono ?_); rintro e w' ⟨rfl, rfl⟩))
        go_ret2
        exact ⟨rfl, rfl⟩

theorem foy_stop {y m d n : Int} (h : IsDate y m d n) : n < foy (y + 1) := by
  have := h.le12; have := h.eq; have := foy_succ y; omega
theorem foy_go {y m d n z : Int} (h : IsDate y m d n) (hz : z < y) : foy (z + 1) ≤ n := by
  have := foy_mono (z + 1) y (by omega); have := h.eq; have := h.d0; have := (mo_le y (m - 1).toNat).2; omega

set_option maxRecDepth 100000 in
set_option maxHeartbeats 800000 in
theorem parts_anyD (Y M D n : Int) (h : IsDate Y M D n) (hn : n ≤ 99999) (w : World) (hv : VarD w) :
    Calls Tryd.prog 42 #[.int .i64 n] w fun e w' => e = .returned (.tuple #[.int .i64 Y, .int .i64 M, .int .i64 D]) ∧ w = w' := by
  have HF := Lib.hid (fun (z : Int) (z0 : 1900 ≤ z) (z1 : z ≤ 2400) => firstOfYear_any z (by omega) (by omega) w)
  have HN := Lib.hid (fun (k : Int) (k0 : 1 ≤ k) (k1 : k ≤ 12) => length_any Y k k0 k1 w hv)
  have HI := Lib.hid h
  have n0 := h.n0
  have y0 := h.y0
  have y1 := h.y1 hn
  have HG := Lib.hid (foy_guess n n0 hn)
  clear h hv
  go_enter Tryd.func42, Tryd.ntmps42
  go_wp2
  go_loop [2] (fun y => ∃ z : Int, y = .int .i64 z ∧ 1900 ≤ z ∧ z ≤ Y) (fun y => (Y - intOf y).toNat)
  case atStart =>
    refine ⟨_, rfl, by omega, ?_⟩
    rcases Int.lt_or_le Y (1900 + n / 366) with g | g
    · have := foy_stop HI.out; have := foy_mono (Y + 1) _ g; have := HG.out; omega
    · exact g
  case round =>
    obtain ⟨z, rfl, z0, z1⟩ := hrel
    obtain ⟨f0, f1⟩ := foy_bd (z + 1) (by omega) (by omega)
    have HC := Lib.hid (HF.out (z + 1) (by omega) (by omega))
    by_cases hz : z < Y
    · have hle := foy_go HI.out hz
      clear HF HN HI HG
      generalize foy (z + 1) = f at *
      go_wp2_with (go_at_call 59; ((with_reducible refine HC.out.mono ?_); rintro e w' ⟨rfl, rfl⟩))
      go_round
      case rel => exact ⟨z + 1, rfl, by omega, by omega⟩
      case measure => simp [intOf]; omega
    · obtain rfl : z = Y := by omega
      have hle := foy_stop HI.out
      have HC2 := Lib.hid (HF.out z (by omega) (by omega))
      clear HF HG
      obtain ⟨k, hk⟩ : ∃ k : Nat, M = (k : Int) + 1 := ⟨(M - 1).toNat, by have := HI.out.m0; omega⟩
      have HE : Hid (∀ j : Nat, j ≤ k → 0 ≤ n - foy z + 1 - mo z j ∧ n - foy z + 1 - mo z j ≤ 400 ∧ (j < k → mlen z ((j : Int) + 1) < n - foy z + 1 - mo z j) ∧ (j = k → n - foy z + 1 - mo z j = D ∧ D ≤ mlen z ((j : Int) + 1))) := by
        intro j hj
        have h1 := HI.out.eq; have h2 := HI.out.le12; have h3 := HI.out.d0; have h4 := HI.out.d1
        subst hk
        rw [show ((k : Int) + 1 - 1).toNat = k by omega] at h1 h2
        have h5 := mo_mono z j k hj
        have h6 := mo12 z
        have h7 := (mo_le z j).2
        refine ⟨by omega, by split at h6 <;> omega, fun hl => ?_, fun e => ?_⟩
        · have h8 := mo_mono z (j + 1) k hl
          simp only [mo] at h8
          omega
        · subst e; exact ⟨by omega, h4⟩
      have hk12 : k ≤ 11 := by have := HI.out.m1; omega
      obtain ⟨g0, g1⟩ := foy_bd z z0 (by omega)
      clear HI f0 f1
      generalize foy (z + 1) = f at *
      generalize foy z = f' at *
      subst hk
      go_wp2_with (first
        | (go_at_call 59; ((with_reducible refine HC.out.mono ?_); rintro e w' ⟨rfl, rfl⟩))
        | (go_at_call 59; ((with_reducible refine HC2.out.mono ?_); rintro e w' ⟨rfl, rfl⟩)))
      go_loop [3, 4] (fun m d => ∃ j : Nat, j ≤ k ∧ m = .int .i64 ((j : Int) + 1) ∧ d = .int .i64 (n - f' + 1 - mo z j)) (fun m _ => k + 1 - (intOf m).toNat)
      case atStart => exact ⟨0, Nat.zero_le _, rfl, int_eqD (by simp [mo])⟩
      case round =>
        obtain ⟨j, hj, rfl, rfl⟩ := hrel
        obtain ⟨d0, d1, hlt, heq⟩ := HE.out j hj
        obtain ⟨l0, l1⟩ := mlen_bd z ((j : Int) + 1)
        have HL := Lib.hid (HN.out ((j : Int) + 1) (by omega) (by omega))
        have HS := Lib.hid (show mo z (j + 1) = mo z j + mlen z ((j : Int) + 1) from rfl)
        clear HN HE HC HC2
        by_cases hlt' : j < k
        · have hgt := hlt hlt'
          clear hlt heq
          generalize mlen z ((j : Int) + 1) = l at *
          generalize hdd : n - f' + 1 - mo z j = dd at *
          have HD := Lib.hid hdd
          clear hdd
          go_wp2_with (go_at_call 43; ((with_reducible refine HL.out.mono ?_); rintro e w' ⟨rfl, rfl⟩))
          go_round
          case rel => exact ⟨j + 1, by omega, int_eqD (by omega), int_eqD (by rw [HS.out, ← HD.out]; omega)⟩
          case measure => simp [intOf]; omega
        · obtain rfl : j = k := by omega
          obtain ⟨e1, e2⟩ := heq rfl
          rw [e1] at d0 d1 ⊢
          clear hlt heq e1 HS
          generalize mlen z ((j : Int) + 1) = l at *
          go_wp2_with (go_at_call 43; ((with_reducible refine HL.out.mono ?_); rintro e w' ⟨rfl, rfl⟩))
          go_ret3
          exact ⟨rfl, rfl⟩
end Go.Proofs.YtfheeipggedaiaaDoor

/- Layer 3: the program's walks: Length, Of, parts, Parts, Weekday. -/
import Derived.Test.YtpgfadkkfofhcaaDoorDatA
namespace Go.Proofs.YtpgfadkkfofhcaaDoor
open Go Go.RowKit

theorem ret_pair {a b c d : Int} (h : a = b) (h' : c = d) : Ending.returned (.tuple #[.int .i64 a, .int .i64 c]) = .returned (.tuple #[.int .i64 b, .int .i64 d]) := by rw [h, h']
/-- What Length answers. -/
def lnV (y m : Int) : Int := if ymB y m then mlen y m else 0
def lnE (y m : Int) : Int := if ymB y m then 0 else 2

set_option maxHeartbeats 400000 in
theorem isDay_in (n : Int) (h0 : 0 ≤ n) (h1 : n ≤ 99999) (w : World) :
    Calls Tryd.prog 19 #[.int .i64 n] w fun e w' => e = .returned (.bool true) ∧ w = w' := by
  go_enter Tryd.func19, Tryd.ntmps19
  go_wp2
  go_ret
  exact ⟨rfl, rfl⟩
set_option maxHeartbeats 400000 in
theorem isDay_out (n : Int) (h : n < 0 ∨ 99999 < n) (w : World) :
    Calls Tryd.prog 19 #[.int .i64 n] w fun e w' => e = .returned (.bool false) ∧ w = w' := by
  have h' : n < 0 ∨ (0 ≤ n ∧ 99999 < n) := by omega
  clear h
  rcases h' with h | ⟨h0, h⟩
  · go_enter Tryd.func19, Tryd.ntmps19
    go_wp2
    go_ret
    exact ⟨rfl, rfl⟩
  · have hd : decide (n ≤ 99999) = false := decide_eq_false (by omega)
    go_enter Tryd.func19, Tryd.ntmps19
    go_wp2
    go_ret
    exact ⟨rfl, rfl⟩

theorem foy_stop {y m d n : Int} (h : IsDate y m d n) : n < foy (y + 1) := by
  have := h.le12; have := h.eq; have := foy_succ y; omega
theorem foy_go {y m d n z : Int} (h : IsDate y m d n) (hz : z < y) : foy (z + 1) ≤ n := by
  have := foy_mono (z + 1) y (by omega); have := h.eq; have := h.d0; have := (mo_le y (m - 1).toNat).2; omega

set_option maxRecDepth 100000 in
set_option maxHeartbeats 800000 in
theorem parts_anyD (Y M D n : Int) (h : IsDate Y M D n) (hn : n ≤ 99999) (w : World) (hv : VarD w) :
    Calls Tryd.prog 20 #[.int .i64 n] w fun e w' => e = .returned (.tuple #[.int .i64 Y, .int .i64 M, .int .i64 D]) ∧ w = w' := by
  have HF := Lib.hid (fun (z : Int) (z0 : 1900 ≤ z) (z1 : z ≤ 2400) => firstOfYear_any z (by omega) (by omega) w)
  have HN := Lib.hid (fun (k : Int) (k0 : 1 ≤ k) (k1 : k ≤ 12) => length_any Y k k0 k1 w hv)
  have HI := Lib.hid h
  have n0 := h.n0
  have y0 := h.y0
  have y1 := h.y1 hn
  have HG := Lib.hid (foy_guess n n0 hn)
  clear h hv
  go_enter Tryd.func20, Tryd.ntmps20
  go_wp2
  go_loop [2] (fun y => ∃ z : Int, y = .int .i64 z ∧ 1900 ≤ z ∧ z ≤ Y) (fun y => (Y - intOf y).toNat)
  case atStart =>
    refine ⟨_, rfl, by omega, ?_⟩
    rcases Int.lt_or_le Y (1900 + n / 366) with g | g
    · have := foy_stop HI.out; have := foy_mono (Y + 1) _ g; have := HG.out; omega
    · exact g
  case round =>
    obtain ⟨z, rfl, z0, z1⟩ := hrel
    obtain ⟨f0, f1⟩ := foy_bd (z + 1) (by omega) (by omega)
    have HC := Lib.hid (HF.out (z + 1) (by omega) (by omega))
    by_cases hz : z < Y
    · have hle := foy_go HI.out hz
      clear HF HN HI HG
      generalize foy (z + 1) = f at *
      go_wp2_with (go_at_call 22; ((with_reducible refine HC.out.mono ?_); rintro e w' ⟨rfl, rfl⟩))
      go_round
      case rel => exact ⟨z + 1, rfl, by omega, by omega⟩
      case measure => simp [intOf]; omega
    · obtain rfl : z = Y := by omega
      have hle := foy_stop HI.out
      have HC2 := Lib.hid (HF.out z (by omega) (by omega))
      clear HF HG
      obtain ⟨k, hk⟩ : ∃ k : Nat, M = (k : Int) + 1 := ⟨(M - 1).toNat, by have := HI.out.m0; omega⟩
      have HE : Hid (∀ j : Nat, j ≤ k → 0 ≤ n - foy z + 1 - mo z j ∧ n - foy z + 1 - mo z j ≤ 400 ∧ (j < k → mlen z ((j : Int) + 1) < n - foy z + 1 - mo z j) ∧ (j = k → n - foy z + 1 - mo z j = D ∧ D ≤ mlen z ((j : Int) + 1))) := by
        intro j hj
        have h1 := HI.out.eq; have h2 := HI.out.le12; have h3 := HI.out.d0; have h4 := HI.out.d1
        subst hk
        rw [show ((k : Int) + 1 - 1).toNat = k by omega] at h1 h2
        have h5 := mo_mono z j k hj
        have h6 := mo12 z
        have h7 := (mo_le z j).2
        refine ⟨by omega, by split at h6 <;> omega, fun hl => ?_, fun e => ?_⟩
        · have h8 := mo_mono z (j + 1) k hl
          simp only [mo] at h8
          omega
        · subst e; exact ⟨by omega, h4⟩
      have hk12 : k ≤ 11 := by have := HI.out.m1; omega
      obtain ⟨g0, g1⟩ := foy_bd z z0 (by omega)
      clear HI f0 f1
      generalize foy (z + 1) = f at *
      generalize foy z = f' at *
      subst hk
      go_wp2_with (first
        | (go_at_call 22; ((with_reducible refine HC.out.mono ?_); rintro e w' ⟨rfl, rfl⟩))
        | (go_at_call 22; ((with_reducible refine HC2.out.mono ?_); rintro e w' ⟨rfl, rfl⟩)))
      go_loop [3, 4] (fun m d => ∃ j : Nat, j ≤ k ∧ m = .int .i64 ((j : Int) + 1) ∧ d = .int .i64 (n - f' + 1 - mo z j)) (fun m _ => k + 1 - (intOf m).toNat)
      case atStart => exact ⟨0, Nat.zero_le _, rfl, int_eqD (by simp [mo])⟩
      case round =>
        obtain ⟨j, hj, rfl, rfl⟩ := hrel
        obtain ⟨d0, d1, hlt, heq⟩ := HE.out j hj
        obtain ⟨l0, l1⟩ := mlen_bd z ((j : Int) + 1)
        have HL := Lib.hid (HN.out ((j : Int) + 1) (by omega) (by omega))
        have HS := Lib.hid (show mo z (j + 1) = mo z j + mlen z ((j : Int) + 1) from rfl)
        clear HN HE HC HC2
        by_cases hlt' : j < k
        · have hgt := hlt hlt'
          clear hlt heq
          generalize mlen z ((j : Int) + 1) = l at *
          generalize hdd : n - f' + 1 - mo z j = dd at *
          have HD := Lib.hid hdd
          clear hdd
          go_wp2_with (go_at_call 23; ((with_reducible refine HL.out.mono ?_); rintro e w' ⟨rfl, rfl⟩))
          go_round
          case rel => exact ⟨j + 1, by omega, int_eqD (by omega), int_eqD (by rw [HS.out, ← HD.out]; omega)⟩
          case measure => simp [intOf]; omega
        · obtain rfl : j = k := by omega
          obtain ⟨e1, e2⟩ := heq rfl
          rw [e1] at d0 d1 ⊢
          clear hlt heq e1 HS
          generalize mlen z ((j : Int) + 1) = l at *
          go_wp2_with (go_at_call 23; ((with_reducible refine HL.out.mono ?_); rintro e w' ⟨rfl, rfl⟩))
          go_ret3
          exact ⟨rfl, rfl⟩
end Go.Proofs.YtpgfadkkfofhcaaDoor

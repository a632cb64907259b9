/- Layer 7: the program's walks: Sum. -/
import Derived.Test.YtalnfbgaiegicaaMoE
import Derived.Test.YtalnfbgaiegicaaMoA
namespace Go.Proofs.Ytalnfbgaiegicaa
open Go Go.RowKit

set_option maxRecDepth 100000 in
set_option maxHeartbeats 1600000 in
theorem psum_many (A : Option Addr) (c n : Nat) (h : 5000 < n) (w : World) :
    Calls Try.prog 6 #[.slice A n c] w fun e w' => e = .returned (.tuple #[.int .i64 0, .int .i64 4]) ∧ w = w' := by
  have h1 : (5000 : Int) < (n : Int) := by omega
  clear h
  go_enter Try.func6, Try.ntmps6
  go_wp2
  go_ret2
  exact ⟨rfl, rfl⟩
set_option maxRecDepth 100000 in
set_option maxHeartbeats 1600000 in
theorem psum_go (A : Option Addr) (c : Nat) (xs : List Int) (N : Nat) (hl : xs.length = N) (hN : N ≤ 5000) (F : Nat → Int) (hF : ∀ i, xs.getD i 0 = F i) (V E : Int) (w : World) (hA : HsA w A xs)
    (h2 : ∀ k, k < N → amB (F k) = false → V = 0 ∧ E = 2) (h14 : (∀ k, k < N → amB (F k) = true) → amB (smF F N) = false → V = 0 ∧ E = 14) (h0 : (∀ k, k < N → amB (F k) = true) → amB (smF F N) = true → V = smF F N ∧ E = 0) :
    Calls Try.prog 6 #[.slice A N c] w fun e w' => e = .returned (.tuple #[.int .i64 V, .int .i64 E]) ∧ w = w' := by
  have hl' : (N : Int) ≤ 5000 := by omega
  have HA := Lib.hid hA
  have HL := Lib.hid hl
  have HF := Lib.hid hF
  have H2 := Lib.hid h2
  have H14 := Lib.hid h14
  have H0 := Lib.hid h0
  have HS : Hid (∀ k, smF F (k + 1) = smF F k + F k) := fun k => rfl
  have HZ : Hid (smF F 0 = 0) := rfl
  have HQ := Lib.hid (fun x b h => pamount_any x b h)
  clear hA hl hF h2 h14 h0
  go_enter Try.func6, Try.ntmps6
  go_wp2
  go_loop [4, 12] (fun s i => ∃ (k : Nat) (S : Int), k ≤ N ∧ i = .int .i64 k ∧ s = .int .i64 S ∧ (-(1125899906842624 * (k : Int)) ≤ S ∧ S ≤ 1125899906842624 * (k : Int)) ∧ Hid (S = smF F k) ∧ Hid (∀ j, j < k → amB (F j) = true)) (fun _ i => N - (intOf i).toNat)
  case atStart => exact ⟨0, 0, by omega, rfl, rfl, by omega, HZ.out.symm, fun j h => by omega⟩
  case round =>
    obtain ⟨k, S, hk, rfl, rfl, ⟨s0, s1⟩, HSS, HI⟩ := hrel
    by_cases hlt : k < N
    · obtain ⟨b, o, rfl, -, hcell⟩ := HA.out.get (show k < xs.length by rw [HL.out]; exact hlt)
      have d0 := hcell k (by rw [HL.out]; exact hlt)
      rw [HF.out] at d0
      have hk1 : (k : Int) < (N : Int) := by omega
      cases hb : amB (F k)
      · obtain ⟨rfl, rfl⟩ := H2.out k hlt hb
        have HC := Lib.hid (HQ.out _ false hb)
        clear hcell hb HI H2 H14 H0 HS HSS
        generalize F k = x at *
        go_wp2_with (go_at_call 9; ((with_reducible refine (HC.out _).mono ?_); rintro e w1 ⟨rfl, rfl⟩))
        go_ret2
        exact ⟨rfl, rfl⟩
      · have HI2 : Hid (∀ j, j < k + 1 → amB (F j) = true) := fun j hj => by
          rcases Nat.lt_or_ge j k with g | g
          · exact HI.out j g
          · obtain rfl : j = k := by omega
            exact hb
        obtain ⟨x0, x1⟩ := (amB_iff _).1 hb
        have HS1 : Hid (S + F k = smF F (k + 1)) := by show _ = _; rw [HS.out, HSS.out]
        have HC := Lib.hid (HQ.out _ true hb)
        clear hcell hb HI H2 H14 H0 HS HF HSS
        generalize F k = x at *
        go_wp2_with (go_at_call 9; ((with_reducible refine (HC.out _).mono ?_); rintro e w1 ⟨rfl, rfl⟩))
        go_round
        case rel => exact ⟨k + 1, _, by omega, by go_num, rfl, ⟨by omega, by omega⟩, HS1, HI2⟩
        case measure => simp [intOf]; omega
    · obtain rfl : k = N := by omega
      have HE := Lib.hid HSS.out
      cases hb : amB S
      · obtain ⟨rfl, rfl⟩ := H14.out (fun i hi => HI.out i hi) (by rw [← HE.out]; exact hb)
        have HC := Lib.hid (HQ.out _ false hb)
        clear hb H14 H0 HI HS HF HE HSS HZ H2
        go_wp2_with (go_at_call 9; ((with_reducible refine (HC.out _).mono ?_); rintro e w1 ⟨rfl, rfl⟩))
        go_ret2
        exact ⟨rfl, rfl⟩
      · obtain ⟨hv, rfl⟩ := H0.out (fun i hi => HI.out i hi) (by rw [← HE.out]; exact hb)
        rw [← HE.out] at hv
        subst hv
        have HC := Lib.hid (HQ.out _ true hb)
        clear hb H14 H0 HI HS HF HE HSS HZ H2
        go_wp2_with (go_at_call 9; ((with_reducible refine (HC.out _).mono ?_); rintro e w1 ⟨rfl, rfl⟩))
        go_ret2
        exact ⟨rfl, rfl⟩
theorem psum_any (A : Option Addr) (c : Nat) (xs : List Int) (w : World) (hA : HsA w A xs) :
    Calls Try.prog 6 #[.slice A xs.length c] w fun e w' => e = .returned (.tuple #[.int .i64 (suV xs), .int .i64 (suE xs)]) ∧ w = w' := by
  by_cases hl : 5000 < xs.length
  · have e1 : suE xs = 4 := by unfold suE; rw [if_pos hl]
    have e2 : suV xs = 0 := by unfold suV; rw [e1, if_neg (by decide)]
    rw [e1, e2]
    exact psum_many A c xs.length hl w
  · have hE : suE xs = if xs.all amB then (if amB (suM xs) then 0 else 14) else 2 := by unfold suE; rw [if_neg hl]
    have hV : suV xs = if suE xs = 0 then suM xs else 0 := rfl
    refine psum_go A c xs xs.length rfl (by omega) (fun i => xs.getD i 0) (fun _ => rfl) _ _ w hA (fun k hk g => ?_) (fun ha g => ?_) (fun ha g => ?_)
    · have e1 : suE xs = 2 := by rw [hE, all_am hk g]; rfl
      exact ⟨by rw [hV, e1]; rfl, e1⟩
    · have e1 : suE xs = 14 := by
        have g' : amB (suM xs) = false := g
        rw [hE, all_am2 ha, g']; rfl
      exact ⟨by rw [hV, e1]; rfl, e1⟩
    · have e1 : suE xs = 0 := by
        have g' : amB (suM xs) = true := g
        rw [hE, all_am2 ha, g']; rfl
      exact ⟨by rw [hV, e1]; rfl, e1⟩
end Go.Proofs.Ytalnfbgaiegicaa

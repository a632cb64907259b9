/- Layer 7: the reference's walks: Split, where it refuses. -/
import Derived.Test.YtalnfbgaiegicaaMoC
import Derived.Test.YtalnfbgaiegicaaMoR
namespace Go.Proofs.Ytalnfbgaiegicaa
open Go Go.RowKit

/-- A list of numbers and an error. -/
def DtsM (L : List Int) (e : Int) (w : World) (x : Ending) (w' : World) : Prop := ∃ A c, x = .returned (.tuple #[.slice A L.length c, .int .i64 e]) ∧ HsA w' A L ∧ (A = none → c = 0) ∧ L.length ≤ c ∧ c ≤ maxLen ∧ Below w.heap.size w w'
theorem dtsM_nil {e : Int} {w w' : World} (h : Below w.heap.size w w') : DtsM [] e w (.returned (.tuple #[.slice none 0 0, .int .i64 e])) w' := ⟨none, 0, rfl, .inl rfl, fun _ => rfl, by simp, by unfold maxLen; omega, h⟩
set_option maxRecDepth 100000 in
set_option maxHeartbeats 1600000 in
theorem rsplit_bad (t : Int) (A : Option Addr) (c : Nat) (n : Nat) (w : World) (h : amB t = false ∨ amB t = true ∧ (n < 1 ∨ 1 ≤ n ∧ 100 < n)) :
    Calls Try.prog 5 #[.int .i64 t, .slice A n c] w (DtsM [] 2 w) := by
  have HQ := Lib.hid (fun b h => ramount_any t b h)
  rcases h with h | ⟨h, h1 | ⟨h1, h2⟩⟩
  · have HC := Lib.hid (HQ.out false h)
    clear h HQ
    go_enter Try.func5, Try.ntmps5
    go_wp2_with (go_at_call 12; ((with_reducible refine (HC.out _).mono ?_); rintro x w1 ⟨rfl, rfl⟩))
    go_ret2
    exact dtsM_nil (Below.refl _ _)
  · have HC := Lib.hid (HQ.out true h)
    have g1 : (n : Int) < 1 := by omega
    clear h HQ h1
    go_enter Try.func5, Try.ntmps5
    go_wp2_with (go_at_call 12; ((with_reducible refine (HC.out _).mono ?_); rintro x w1 ⟨rfl, rfl⟩))
    go_ret2
    exact dtsM_nil (Below.refl _ _)
  · have HC := Lib.hid (HQ.out true h)
    have g1 : 1 ≤ (n : Int) := by omega
    have g2 : 100 < (n : Int) := by omega
    clear h HQ h1 h2
    go_enter Try.func5, Try.ntmps5
    go_wp2_with (go_at_call 12; ((with_reducible refine (HC.out _).mono ?_); rintro x w1 ⟨rfl, rfl⟩))
    go_ret2
    exact dtsM_nil (Below.refl _ _)
set_option maxRecDepth 100000 in
set_option maxHeartbeats 1600000 in
theorem rsplit_wgt (t : Int) (A : Option Addr) (c : Nat) (ws : List Int) (n : Nat) (hn : ws.length = n) (n0 : 1 ≤ n) (n1 : n ≤ 100) (F : Nat → Int) (hF : ∀ i, ws.getD i 0 = F i) (w : World) (hA : HsA w A ws) (h : amB t = true) (hb : (∃ k, k < n ∧ wgB (F k) = false) ∨ (∀ k, k < n → wgB (F k) = true) ∧ smF F n = 0) :
    Calls Try.prog 5 #[.int .i64 t, .slice A n c] w (DtsM [] 2 w) := by
  have HC := Lib.hid (ramount_any t true h)
  have g0 : 1 ≤ (n : Int) := by omega
  have g1 : (n : Int) ≤ 100 := by omega
  have HA := Lib.hid hA
  have HL := Lib.hid hn
  have HF := Lib.hid hF
  have HB := Lib.hid hb
  have HS : Hid (∀ k, smF F (k + 1) = smF F k + F k) := fun k => rfl
  have HZ : Hid (smF F 0 = 0) := rfl
  clear h hA hn hF hb
  go_enter Try.func5, Try.ntmps5
  go_wp2_with (go_at_call 12; ((with_reducible refine (HC.out _).mono ?_); rintro x w1 ⟨rfl, rfl⟩))
  go_loop [6, 7] (fun s i => ∃ (k : Nat) (S : Int), k ≤ n ∧ i = .int .i64 k ∧ s = .int .i64 S ∧ Hid (S = smF F k) ∧ (0 ≤ S ∧ S ≤ 4000 * (k : Int)) ∧ Hid (∀ j, j < k → wgB (F j) = true)) (fun _ i => n - (intOf i).toNat)
  case atStart => exact ⟨0, _, by omega, rfl, rfl, HZ.out.symm, by simp, fun j h => by omega⟩
  case round =>
    obtain ⟨k, S, hk, rfl, rfl, HSS, ⟨s0, s1⟩, HI⟩ := hrel
    by_cases hlt : k < n
    · obtain ⟨b, o, rfl, -, hcell⟩ := HA.out.get (show k < ws.length by rw [HL.out]; exact hlt)
      have d0 := hcell k (by rw [HL.out]; exact hlt)
      rw [HF.out] at d0
      have hk1 : (k : Int) < (n : Int) := by omega
      cases hw : wgB (F k)
      · have hx : F k < 0 ∨ 0 ≤ F k ∧ 4000 < F k := by
          unfold wgB at hw
          by_cases g : 0 ≤ F k
          · rw [decide_eq_true g, Bool.true_and, decide_eq_false_iff_not] at hw; omega
          · omega
        clear hcell HB HI HS HSS HF hw
        generalize F k = x at *
        rcases hx with hx | ⟨hx, hx2⟩
        · go_wp2
          go_ret2
          exact dtsM_nil (Below.refl _ _)
        · go_wp2
          go_ret2
          exact dtsM_nil (Below.refl _ _)
      · have hx : 0 ≤ F k ∧ F k ≤ 4000 := by
          unfold wgB at hw
          rw [Bool.and_eq_true, decide_eq_true_eq, decide_eq_true_eq] at hw
          exact hw
        have HI2 : Hid (∀ j, j < k + 1 → wgB (F j) = true) := fun j hj => by
          rcases Nat.lt_or_ge j k with q | q
          · exact HI.out j q
          · obtain rfl : j = k := by omega
            exact hw
        have HS1 : Hid (S + F k = smF F (k + 1)) := by show _ = _; rw [HS.out, HSS.out]
        obtain ⟨hx0, hx1⟩ := hx
        clear hcell HB HI HS HSS HF hw
        generalize F k = x at *
        go_wp2
        go_round
        case rel => exact ⟨k + 1, _, by omega, by go_num, rfl, HS1, ⟨by omega, by omega⟩, HI2⟩
        case measure => simp [intOf]; omega
    · obtain rfl : k = n := by omega
      have hz : S = 0 := by
        rcases HB.out with ⟨j, hj, hw⟩ | ⟨-, hz⟩
        · have := HI.out j hj
          rw [hw] at this; cases this
        · rw [HSS.out]; exact hz
      subst hz
      clear HB HI HS HSS HF HZ
      go_wp2
      go_ret2
      exact dtsM_nil (Below.refl _ _)
end Go.Proofs.Ytalnfbgaiegicaa

/- Layer 3: the program's walks over numbers: leap years, months, years. -/
import Derived.Test.YtfheeipggedaiaaDoorDatM
import Derived.Test.YtfheeipggedaiaaDoorRows
import Derived.WalkKit
import Derived.WalkSpells
import Derived.WalkLawsBesides
import Derived.Lib.Hide
import Derived.Deep.QuietTactic
import Derived.BigQuiet
import Derived.BigRegion
import Derived.WalkSmall
import Derived.Lib.LaidTab
import Derived.Outline
namespace Go.Proofs.YtfheeipggedaiaaDoor
open Go Go.RowKit

theorem ret_intD {k : IntKind} {a b : Int} (h : a = b) : Ending.returned (.int k a) = .returned (.int k b) := by rw [h]
theorem ret_boolD {a b : Bool} (h : a = b) : Ending.returned (.bool a) = .returned (.bool b) := by rw [h]
theorem int_eqD {k : IntKind} {a b : Int} (h : a = b) : Value.int k a = .int k b := by rw [h]

theorem tmod_zero (y k : Int) : (y.tmod k == 0) = decide (y % k = 0) := by
  rw [Bool.eq_iff_iff, beq_iff_eq, decide_eq_true_iff]
  exact ⟨fun h => Int.emod_eq_zero_of_dvd (Int.dvd_of_tmod_eq_zero h), fun h => Int.tmod_eq_zero_of_dvd (Int.dvd_of_emod_eq_zero h)⟩

theorem leapB_eq (y : Int) : leapB y = ((y.tmod 4 == 0) && ((y.tmod 100 != 0) || (y.tmod 400 == 0))) := by
  have h4 := tmod_zero y 4
  have h1 := tmod_zero y 100
  have h5 := tmod_zero y 400
  rw [h4, h5, bne, h1]; unfold leapB; simp

set_option maxHeartbeats 400000 in
theorem leap_any (y : Int) (w : World) :
    Calls Tryd.prog 60 #[.int .i64 y] w fun e w' => e = .returned (.bool (leapB y)) ∧ w = w' := by
  have HL := Lib.hid (leapB_eq y)
  go_enter Tryd.func60, Tryd.ntmps60
  go_wp2
  all_goals
    go_ret
    exact ⟨ret_boolD (by rw [HL.out]; simp [*]), rfl⟩

/-- The lengths of months lie in memory. -/
def lens : List Int := [31, 28, 31, 30, 31, 30, 31, 31, 30, 31, 30, 31]
structure VarD (w : World) : Prop where
  cell : ∀ k : Nat, k < 12 → w.cell? ⟨0, k, none⟩ = some (.int .i64 (lens.getD k 0))
theorem VarD.below {w w' : World} (h : VarD w) (hb : Below w.heap.size w w') : VarD w' :=
  ⟨fun k hk => (hb.cell (p := ⟨0, k, none⟩) (World.block_lt_of_cell? w _ (h.cell k hk))).trans (h.cell k hk)⟩
theorem lens_len (m : Int) (h0 : 1 ≤ m) (h1 : m ≤ 12) : ∃ k : Nat, m = (k : Int) + 1 ∧ k < 12 ∧ ∀ y, mlen y m = lens.getD k 0 + (if m = 2 ∧ leapB y then 1 else 0) := by
  refine ⟨(m - 1).toNat, by omega, by omega, fun y => ?_⟩
  have : m = 1 ∨ m = 2 ∨ m = 3 ∨ m = 4 ∨ m = 5 ∨ m = 6 ∨ m = 7 ∨ m = 8 ∨ m = 9 ∨ m = 10 ∨ m = 11 ∨ m = 12 := by omega
  rcases this with rfl | rfl | rfl | rfl | rfl | rfl | rfl | rfl | rfl | rfl | rfl | rfl
  case inr.inl => cases h : leapB y <;> simp [mlen, h] <;> rfl
  all_goals (simp [mlen]; rfl)

set_option maxHeartbeats 400000 in
theorem length_any (y m : Int) (m0 : 1 ≤ m) (m1 : m ≤ 12) (w : World) (hv : VarD w) :
    Calls Tryd.prog 43 #[.int .i64 y, .int .i64 m] w fun e w' => e = .returned (.int .i64 (mlen y m)) ∧ w = w' := by
  obtain ⟨k, rfl, hk, hl⟩ := lens_len m m0 m1
  have HL := Lib.hid (hl y)
  have hc := hv.cell k hk
  have HC := Lib.hid (leap_any y)
  have hb : 28 ≤ lens.getD k 0 ∧ lens.getD k 0 ≤ 31 := by
    have : ∀ k, k < 12 → 28 ≤ lens.getD k 0 ∧ lens.getD k 0 ≤ 31 := by decide
    exact this k hk
  generalize lens.getD k 0 = n at *
  obtain ⟨b0, b1⟩ := hb
  clear hl hv
  by_cases h2 : k = 1
  · subst h2
    cases hB : leapB y
    all_goals
      rw [hB] at HC HL
      clear hB m0 m1 hk
      go_enter Tryd.func43, Tryd.ntmps43
      go_wp2_with (go_at_call 60; refine (HC.out _).mono ?_; rintro e w' ⟨rfl, rfl⟩)
      go_ret
      exact ⟨ret_intD (by rw [HL.out]; simp), rfl⟩
  · have hne : (((k : Int) + 1) == 2) = false := by rw [beq_eq_false_iff_ne]; omega
    have hl2 : mlen y ((k : Int) + 1) = n := by rw [HL.out, if_neg (by omega)]; simp
    have HL2 := Lib.hid hl2
    clear HL h2 hk hl2
    go_enter Tryd.func43, Tryd.ntmps43
    go_wp2
    go_ret
    exact ⟨ret_intD (by rw [HL2.out]), rfl⟩

set_option maxHeartbeats 400000 in
theorem leapsBefore_any (y : Int) (y0 : 1 ≤ y) (y1 : y ≤ 100000) (w : World) :
    Calls Tryd.prog 71 #[.int .i64 y] w fun e w' => e = .returned (.int .i64 ((y - 1) / 4 - (y - 1) / 100 + (y - 1) / 400)) ∧ w = w' := by
  have y2 : 0 ≤ y - 1 := by omega
  go_enter Tryd.func71, Tryd.ntmps71
  go_wp2
  go_ret
  exact ⟨rfl, rfl⟩
theorem leapsBefore_1900 (w : World) :
    Calls Tryd.prog 71 #[.int .i64 1900] w fun e w' => e = .returned (.int .i64 460) ∧ w = w' :=
  leapsBefore_any 1900 (by omega) (by omega) w

set_option maxHeartbeats 400000 in
theorem firstOfYear_any (y : Int) (y0 : 1 ≤ y) (y1 : y ≤ 100000) (w : World) :
    Calls Tryd.prog 59 #[.int .i64 y] w fun e w' => e = .returned (.int .i64 (foy y)) ∧ w = w' := by
  have H1 := Lib.hid (leapsBefore_any y y0 y1)
  have H2 := Lib.hid leapsBefore_1900
  have HF : Hid (∀ l, l = (y - 1) / 4 - (y - 1) / 100 + (y - 1) / 400 → 365 * (y - 1900) + l - 460 = foy y) := fun l h => by subst h; rfl
  have b0 : 0 ≤ (y - 1) / 4 - (y - 1) / 100 + (y - 1) / 400 := by omega
  have b1 : (y - 1) / 4 - (y - 1) / 100 + (y - 1) / 400 ≤ 100000 := by omega
  obtain ⟨l, hl⟩ : ∃ l, l = (y - 1) / 4 - (y - 1) / 100 + (y - 1) / 400 := ⟨_, rfl⟩
  have HE := Lib.hid (HF.out l hl)
  rw [← hl] at H1 b0 b1
  clear hl HF
  go_enter Tryd.func59, Tryd.ntmps59
  go_wp2_with (first
    | (go_at_call 71; ((with_reducible refine (H1.out _).mono ?_); rintro e w' ⟨rfl, rfl⟩))
    | (go_at_call 71; ((with_reducible refine (H2.out _).mono ?_); rintro e w' ⟨rfl, rfl⟩)))
  go_ret
  exact ⟨ret_intD HE.out, rfl⟩

set_option maxHeartbeats 400000 in
theorem firstOfMonth_any (y m : Int) (y0 : 1900 ≤ y) (y1 : y ≤ 2400) (m0 : 1 ≤ m) (m1 : m ≤ 12) (w : World) (hv : VarD w) :
    Calls Tryd.prog 61 #[.int .i64 y, .int .i64 m] w fun e w' => e = .returned (.int .i64 (foy y + mo y (m - 1).toNat)) ∧ w = w' := by
  have H1 := Lib.hid (firstOfYear_any y (by omega) (by omega))
  have H2 := Lib.hid (fun (k : Int) (k0 : 1 ≤ k) (k1 : k ≤ 12) => length_any y k k0 k1 w hv)
  have HB := Lib.hid (foy_bd y y0 y1)
  clear hv
  obtain ⟨f, hf⟩ : ∃ f, foy y = f := ⟨_, rfl⟩
  rw [hf] at H1 HB ⊢
  clear hf
  obtain ⟨n, rfl⟩ : ∃ n : Nat, m = (n : Int) + 1 := ⟨(m - 1).toNat, by omega⟩
  have hn : n ≤ 11 := by omega
  clear m0 m1
  go_enter Tryd.func61, Tryd.ntmps61
  go_wp2_with (go_at_call 59; ((with_reducible refine (H1.out _).mono ?_); rintro e w' ⟨rfl, rfl⟩))
  go_loop [5, 6] (fun d b => ∃ k : Nat, k ≤ n ∧ b = .int .i64 ((k : Int) + 1) ∧ d = .int .i64 (f + mo y k)) (fun _ b => n + 1 - (intOf b).toNat)
  case atStart => exact ⟨0, Nat.zero_le _, rfl, int_eqD (by simp [mo])⟩
  case round =>
    obtain ⟨k, hk, rfl, rfl⟩ := hrel
    obtain ⟨b0, b1⟩ := mo_le y k
    obtain ⟨f0, f1⟩ := HB.out
    by_cases hlt : k < n
    · have HL := Lib.hid (H2.out ((k : Int) + 1) (by omega) (by omega))
      obtain ⟨l0, l1⟩ := mlen_bd y ((k : Int) + 1)
      have HS := Lib.hid (show mo y (k + 1) = mo y k + mlen y ((k : Int) + 1) from rfl)
      have b2 : mo y k ≤ 372 := by omega
      have hlt' : (k : Int) + 1 < (n : Int) + 1 := by omega
      generalize mlen y ((k : Int) + 1) = l at *
      generalize mo y k = s at *
      clear HB H2
      go_wp2_with (go_at_call 43; ((with_reducible refine HL.out.mono ?_); rintro e w' ⟨rfl, rfl⟩))
      go_round
      case rel => exact ⟨k + 1, by omega, int_eqD (by omega), int_eqD (by rw [HS.out]; omega)⟩
      case measure => simp [intOf]; omega
    · obtain rfl : k = n := by omega
      clear HB H2
      go_wp2
      go_ret
      exact ⟨rfl, rfl⟩
end Go.Proofs.YtfheeipggedaiaaDoor

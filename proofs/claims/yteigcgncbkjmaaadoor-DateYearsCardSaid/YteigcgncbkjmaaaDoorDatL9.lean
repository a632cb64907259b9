/- The walk of the law DateYears. -/
import Derived.Test.YteigcgncbkjmaaaDoorDatI
namespace Go.Proofs.YteigcgncbkjmaaaDoor
open Go Go.RowKit

theorem leapB_400 (y : Int) : leapB (y + 400) = leapB y := by
  rw [Bool.eq_iff_iff, leapB_iff, leapB_iff]; omega
theorem foy_lo (y : Int) (h0 : 1900 ≤ y) (h1 : y ≤ 2173) : 0 ≤ foy y ∧ foy y ≤ 99712 := by unfold foy; omega
theorem of_first (y : Int) (h0 : 1900 ≤ y) (h1 : y ≤ 2173) : ofV y 1 1 = foy y ∧ ofE y 1 1 = 0 := by
  have hf := foy_lo y h0 h1
  have hi : IsDate y 1 1 (foy y) := ⟨h0, by decide, by decide, by decide, by have := mlen_bd y 1; omega, by show foy y + 1 = foy y + 0 + 1; omega⟩
  exact ⟨hi.of_v (by omega), hi.of_e (by omega)⟩
theorem of_outside (y m d : Int) (h : y < 1900 ∨ 2173 < y) : ofV y m d = 0 ∧ ofE y m d = 2 := by
  have : okB y m d = false := by
    rw [Bool.eq_false_iff]; intro g; rw [okB_iff] at g; omega
  unfold ofV ofE; rw [this]; exact ⟨rfl, rfl⟩
theorem of_month (y : Int) (h0 : 1900 ≤ y) (_h1 : y ≤ 2173) (k : Nat) (hk : k < 12) :
    (ofV y ((k : Int) + 1) 1 = foy y + mo y k ∧ ofE y ((k : Int) + 1) 1 = 0) ∨ (ofV y ((k : Int) + 1) 1 = 0 ∧ ofE y ((k : Int) + 1) 1 = 2) := by
  by_cases hb : foy y + mo y k ≤ 99999
  · left
    have hi : IsDate y ((k : Int) + 1) 1 (foy y + mo y k) := by
      refine ⟨h0, by omega, by omega, by decide, by have := mlen_bd y ((k : Int) + 1); omega, ?_⟩
      have e : ((k : Int) + 1 - 1).toNat = k := by omega
      rw [e]
    exact ⟨hi.of_v hb, hi.of_e hb⟩
  · right
    have : okB y ((k : Int) + 1) 1 = false := by
      rw [Bool.eq_false_iff]; intro g; rw [okB_iff] at g
      have e : ((k : Int) + 1 - 1).toNat = k := by omega
      unfold dayI at g; rw [e] at g; omega
    unfold ofV ofE; rw [this]; exact ⟨rfl, rfl⟩

set_option maxRecDepth 100000 in
set_option maxHeartbeats 800000 in
theorem years_out (y : Int) (yr : -9223372036854775808 ≤ y ∧ y ≤ 9223372036854775807) (h : y < 1900 ∨ 2173 < y) (w : World) (hv : VarS w) :
    Calls Tryd.prog 11 #[.int .i64 y] w fun e w' => e = .returned (.bool true) ∧ Below w.heap.size w w' := by
  have HV := Lib.hid hv
  have HA := Lib.hid (alive_any w hv)
  have HL := Lib.hid (leap_any y)
  have HL2 := Lib.hid (leap_any (y + 400))
  rw [leapB_400] at HL2
  have HO := Lib.hid (fun w1 h1 => of_at y 1 1 0 2 (of_outside y 1 1 h).1 (of_outside y 1 1 h).2 w1 h1)
  have hy : y < 1900 ∨ (1900 ≤ y ∧ 2173 < y ∧ y < 1152921504606846976) ∨ (1900 ≤ y ∧ 2173 < y ∧ 1152921504606846976 ≤ y) := by omega
  obtain ⟨yr0, yr1⟩ := yr
  obtain ⟨b, hb⟩ : ∃ b, leapB y = b := ⟨_, rfl⟩
  rw [hb] at HL HL2
  clear hv h hb
  rcases hy with h | ⟨h0, h1, h2⟩ | ⟨h0, h1, h2⟩
  all_goals cases b
  all_goals
    go_enter Tryd.func11, Tryd.ntmps11
    go_wp2_with (first
      | (go_at_call 19; ((with_reducible refine HA.out.mono ?_); rintro e w1 ⟨rfl, b⟩; have B1 := Lib.hid b; clear b))
      | (go_at_call 18; (first | with_reducible refine (HL.out _).mono ?_ | with_reducible refine (HL2.out _).mono ?_); (rintro e w2 ⟨rfl, rfl⟩))
      | (go_at_call 13; ((with_reducible refine (HO.out _ (HV.out.below B1.out).d).mono ?_); rintro e w2 ⟨rfl, rfl⟩)))
    go_ret
    exact ⟨rfl, B1.out⟩

set_option maxRecDepth 100000 in
set_option maxHeartbeats 3200000 in
theorem years_in (y : Int) (h0 : 1900 ≤ y) (h1 : y ≤ 2173) (w : World) (hv : VarS w) :
    Calls Tryd.prog 11 #[.int .i64 y] w fun e w' => e = .returned (.bool true) ∧ Below w.heap.size w w' := by
  have HV := Lib.hid hv
  have HA := Lib.hid (alive_any w hv)
  have HL := Lib.hid (leap_any y)
  have HL2 := Lib.hid (leap_any (y + 400))
  rw [leapB_400] at HL2
  have HO := Lib.hid (fun w1 h1' => of_at y 1 1 (foy y) 0 (of_first y h0 h1).1 (of_first y h0 h1).2 w1 h1')
  obtain ⟨f0, f1⟩ := foy_lo y h0 h1
  have HM := Lib.hid (fun (k : Int) (k0 : 1 ≤ k) (k1 : k ≤ 12) => length2_ok y k ((ymB_iff y k).2 ⟨h0, h1, k0, k1⟩))
  have HF := Lib.hid (of_month y h0 h1)
  have HB := Lib.hid (mo_le y)
  have H12 := Lib.hid (mo12 y)
  have HN : Hid ((y = 2173 ∧ ofV (y + 1) 1 1 = 0 ∧ ofE (y + 1) 1 1 = 2) ∨ (y < 2173 ∧ ofV (y + 1) 1 1 = foy y + mo y 12 ∧ ofE (y + 1) 1 1 = 0)) := by
    show _
    by_cases hy : y = 2173
    · exact .inl ⟨hy, (of_outside (y + 1) 1 1 (by omega)).1, (of_outside (y + 1) 1 1 (by omega)).2⟩
    · refine .inr ⟨by omega, ?_, (of_first (y + 1) (by omega) (by omega)).2⟩
      rw [(of_first (y + 1) (by omega) (by omega)).1, foy_succ]
  obtain ⟨a, ha⟩ : ∃ a, foy y = a := ⟨_, rfl⟩
  rw [ha] at HO f0 f1 HF HN
  obtain ⟨b, hb⟩ : ∃ b, leapB y = b := ⟨_, rfl⟩
  rw [hb] at HL HL2 H12
  clear hv hb ha
  go_enter Tryd.func11, Tryd.ntmps11
  go_wp2_with (first
    | (go_at_call 19; ((with_reducible refine HA.out.mono ?_); rintro e w1 ⟨rfl, b⟩; have B1 := Lib.hid b; clear b))
    | (go_at_call 18; (first | with_reducible refine (HL.out _).mono ?_ | with_reducible refine (HL2.out _).mono ?_); (rintro e w2 ⟨rfl, rfl⟩))
    | (go_at_call 13; ((with_reducible refine (HO.out _ (HV.out.below B1.out).d).mono ?_); rintro e w2 ⟨rfl, rfl⟩)))
  go_loop [6, 7] (fun s m => ∃ k : Nat, k ≤ 12 ∧ m = .int .i64 ((k : Int) + 1) ∧ s = .int .i64 (mo y k)) (fun _ m => 13 - (intOf m).toNat)
  case atStart => exact ⟨0, by omega, rfl, int_eq rfl⟩
  case round =>
    obtain ⟨k, hk, rfl, rfl⟩ := hrel
    obtain ⟨b0, b1⟩ := HB.out k
    by_cases hlt : k < 12
    · have HMk := Lib.hid (HM.out ((k : Int) + 1) (by omega) (by omega))
      have HSk := Lib.hid (show mo y (k + 1) = mo y k + mlen y ((k : Int) + 1) from rfl)
      have HFk := HF.out k hlt
      have HOk := Lib.hid (of_any y ((k : Int) + 1) 1)
      obtain ⟨l0, l1⟩ := mlen_bd y ((k : Int) + 1)
      generalize mlen y ((k : Int) + 1) = l at *
      generalize mo y k = s at *
      generalize ofV y ((k : Int) + 1) 1 = v at *
      generalize ofE y ((k : Int) + 1) 1 = e at *
      have c1 : (k : Int) + 1 ≤ 12 := by omega
      clear HM HF HB HN H12
      rcases HFk with ⟨rfl, rfl⟩ | ⟨rfl, rfl⟩
      all_goals
        go_wp2_with (first
          | (go_at_call 16; ((with_reducible refine (HMk.out _ (HV.out.below B1.out).d).mono ?_); rintro e w2 ⟨rfl, rfl⟩))
          | (go_at_call 13; ((with_reducible refine (HOk.out _ (HV.out.below B1.out).d).mono ?_); rintro e w2 ⟨rfl, rfl⟩)))
        go_round
        case rel => exact ⟨k + 1, by omega, int_eq (by omega), int_eq (by rw [HSk.out])⟩
        case measure => simp [intOf]; omega
    · obtain rfl : k = 12 := by omega
      have HN2 := Lib.hid (of_any (y + 1) 1 1)
      have h12 := H12.out
      have hn := HN.out
      generalize mo y 12 = s at *
      generalize ofV (y + 1) 1 1 = v at *
      generalize ofE (y + 1) 1 1 = e at *
      clear HM HF HB HN H12
      rcases hn with ⟨hy, rfl, rfl⟩ | ⟨hy, rfl, rfl⟩
      · subst hy
        rw [show (2173 : Int) + 1 = 2174 from rfl] at HN2
        cases b
        all_goals
          (first | rw [if_pos rfl] at h12 | rw [if_neg (by decide)] at h12)
          subst h12
        all_goals
          go_wp2_with (first
            | (go_at_call 18; ((with_reducible refine (HL.out _).mono ?_); (rintro e w2 ⟨rfl, rfl⟩)))
            | (go_at_call 13; ((with_reducible refine (HN2.out _ (HV.out.below B1.out).d).mono ?_); rintro e w2 ⟨rfl, rfl⟩)))
          go_ret
          exact ⟨rfl, B1.out⟩
      · cases b
        all_goals
          (first | rw [if_pos rfl] at h12 | rw [if_neg (by decide)] at h12)
          subst h12
        all_goals
          go_wp2_with (first
            | (go_at_call 18; ((with_reducible refine (HL.out _).mono ?_); (rintro e w2 ⟨rfl, rfl⟩)))
            | (go_at_call 13; ((with_reducible refine (HN2.out _ (HV.out.below B1.out).d).mono ?_); rintro e w2 ⟨rfl, rfl⟩)))
          go_ret
          exact ⟨rfl, B1.out⟩
theorem years_law (y : Int) (yr0 : -9223372036854775808 ≤ y) (yr1 : y ≤ 9223372036854775807) (w : World) (hv : VarS w) :
    Calls Tryd.prog 11 #[.int .i64 y] w fun e w' => e = .returned (.bool true) ∧ Below w.heap.size w w' := by
  by_cases h : y < 1900 ∨ 2173 < y
  · exact years_out y ⟨yr0, yr1⟩ h w hv
  · exact years_in y (by omega) (by omega) w hv
end Go.Proofs.YteigcgncbkjmaaaDoor

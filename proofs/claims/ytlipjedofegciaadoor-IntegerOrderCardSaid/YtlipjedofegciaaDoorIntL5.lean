/- The walk of the law IntegerDivision. -/
import Derived.Test.YtlipjedofegciaaDoorIntF4
namespace Go.Proofs.YtlipjedofegciaaDoor
open Go Go.RowKit

theorem cmp_low {r : Int} (h : 0 ≤ r) : ∃ c, cmpZ 0 r = c ∧ c ≤ 0 := ⟨_, rfl, by unfold cmpZ; split <;> (try split) <;> omega⟩
theorem cmp_high {r b : Int} (h : r < b) : cmpZ r b = -1 := by unfold cmpZ; rw [if_pos h]

set_option maxRecDepth 100000 in
set_option maxHeartbeats 3200000 in
theorem division_law (sa sb : ByteArray) (w : World) (hv : VarT w) :
    Calls Tryd.prog 8 #[.string sa, .string sb] w fun e w' => e = .returned (.bool true) ∧ Below w.heap.size w w' := by
  have HAL := Lib.hid alive_any
  have HV := Lib.hid hv
  clear hv
  by_cases hf : fitB 900 [sa, sb] = true
  · have HF := Lib.hid (fits_two 900 (by omega) sa sb true hf)
    obtain ⟨⟨i1, j1⟩, ⟨i2, j2⟩⟩ := fit_two hf
    have h1 := dg_of j1 i1
    have h2 := dg_of j2 i2
    have ra := (rep_num sa j1).symm
    have rb := (rep_num sb j2).symm
    clear hf i1 i2 j1 j2
    generalize num sa.data.toList = x at *
    generalize num sb.data.toList = y at *
    have La : x.natAbs < lim := h1.lim (by omega)
    have Lb : y.natAbs < lim := h2.lim (by omega)
    by_cases h0 : y = 0
    · have C1 := Lib.hid (divmod_rep0 La Lb h0 sa sb ra rb)
      have eb : sb = ⟨#[48]⟩ := by rw [← rb, h0, rep_zero]
      have e0 : (sb.toList == [48]) = true := by rw [eb]; decide +kernel
      clear La Lb h0 ra rb h1 h2 eb
      clear x y
      go_enter Tryd.func8, Tryd.ntmps8
      go_wp2_with (first
        | (go_at_call 21; refine (HAL.out _ HV.out).mono ?_; rintro e w0 ⟨rfl, b0⟩; have B0 := Lib.hid b0; clear b0)
        | (go_at_call 33; refine (HF.out _ _).mono ?_; rintro e u0 ⟨rfl, b⟩; have D0 := Lib.hid (bt (bt B0.out ((Below.refl _ w0).alloc (Nat.le_refl _) _)) b); clear b)
        | (go_at_call 17; refine (C1.out _ (HV.out.below D0.out)).mono ?_; rintro e u1 ⟨rfl, b⟩; have D1 := Lib.hid (bt D0.out b); clear b))
      go_ret
      exact ⟨rfl, D1.out⟩
    · have hr0 := Int.emod_nonneg x h0
      have hr1 := Int.emod_lt x h0
      have hqr := Int.ediv_mul_add_emod x y
      obtain ⟨su, ru⟩ : ∃ r, rep (y.natAbs : Int) = r := ⟨_, rfl⟩
      obtain ⟨sq, rq⟩ : ∃ r, rep (x / y) = r := ⟨_, rfl⟩
      obtain ⟨sr, rr⟩ : ∃ r, rep (x % y) = r := ⟨_, rfl⟩
      obtain ⟨sm, rm⟩ : ∃ r, rep (x / y * y) = r := ⟨_, rfl⟩
      have Lq : (x / y).natAbs < lim := (h1.div y).lim (by omega)
      have Lr : (x % y).natAbs < lim := (h2.mod x h0).lim (by omega)
      have Lu : ((y.natAbs : Nat) : Int).natAbs < lim := h2.abs.lim (by omega)
      have Lm : (x / y * y).natAbs < lim := by
        have e : x / y * y = x - x % y := by omega
        rw [e]; exact (h1.sub (h2.mod x h0)).lim (by omega)
      have L0 : (0 : Int).natAbs < lim := (Dg.zero 0).lim (by omega)
      obtain ⟨low, hlow, hlow0⟩ := cmp_low hr0
      have C1 := Lib.hid (divmod_rep La Lb h0 rfl rfl sa sb sq sr ra rb rq rr)
      have C2 := Lib.hid (compare_rep L0 Lr hlow _ _ rep_zero rr)
      have C3 := Lib.hid (compare_rep Lr Lu (cmp_high hr1) _ _ rr ru)
      have C4 := Lib.hid (opmul_rep Lq Lb rfl Lm _ _ _ rq rb rm)
      have C5 := Lib.hid (opadd_rep Lm Lr hqr La _ _ _ rm rr ra)
      have eb : (sb.toList == [48]) = false := by
        rw [Lib.toList_data, beq_eq_false_iff_ne, ← rb, rep_data]
        intro h
        exact h0 (itoa_inj (h.trans itoa_zero.symm))
      clear hlow hqr La Lb Lq Lr Lu Lm L0 hr0 hr1 h1 h2 rq rr rm ra
      by_cases hy : y < 0
      · obtain ⟨⟨hs0, hs1⟩, hex⟩ := rep_neg_byte y hy sb su rb (by rw [← ru]; congr 1; omega)
        clear rb ru hy h0
        clear x y
        go_enter Tryd.func8, Tryd.ntmps8
        go_wp2_with (first
          | (go_at_call 21; refine (HAL.out _ HV.out).mono ?_; rintro e w0 ⟨rfl, b0⟩; have B0 := Lib.hid b0; clear b0)
          | (go_at_call 33; refine (HF.out _ _).mono ?_; rintro e u0 ⟨rfl, b⟩; have D0 := Lib.hid (bt (bt B0.out ((Below.refl _ w0).alloc (Nat.le_refl _) _)) b); clear b)
          | (go_at_call 17; refine (C1.out _ (HV.out.below D0.out)).mono ?_; rintro e u1 ⟨rfl, b⟩; have D1 := Lib.hid (bt D0.out b); clear b)
          | (go_at_call 20; (with_reducible refine (C2.out _ (HV.out.below D1.out)).mono ?_); rintro e u2 ⟨rfl, b⟩; have D2 := Lib.hid (bt D1.out b); clear b)
          | (go_at_call 20; (with_reducible refine (C3.out _ (HV.out.below D2.out)).mono ?_); rintro e u3 ⟨rfl, b⟩; have D3 := Lib.hid (bt D2.out b); clear b)
          | (go_at_call 34; (with_reducible refine (C4.out _ (HV.out.below D3.out)).mono ?_); rintro e u4 ⟨rfl, b⟩; have D4 := Lib.hid (bt D3.out b); clear b)
          | (go_at_call 34; (with_reducible refine (C5.out _ (HV.out.below D4.out)).mono ?_); rintro e u5 ⟨rfl, b⟩; have D5 := Lib.hid (bt D4.out b); clear b))
        go_ret
        exact ⟨rfl, D5.out⟩
      · obtain ⟨hs0, hs1⟩ := rep_pos_byte y (by omega) sb rb
        obtain rfl : su = sb := by rw [← ru, ← rb]; congr 1; omega
        clear rb ru hy h0
        clear x y
        go_enter Tryd.func8, Tryd.ntmps8
        go_wp2_with (first
          | (go_at_call 21; refine (HAL.out _ HV.out).mono ?_; rintro e w0 ⟨rfl, b0⟩; have B0 := Lib.hid b0; clear b0)
          | (go_at_call 33; refine (HF.out _ _).mono ?_; rintro e u0 ⟨rfl, b⟩; have D0 := Lib.hid (bt (bt B0.out ((Below.refl _ w0).alloc (Nat.le_refl _) _)) b); clear b)
          | (go_at_call 17; refine (C1.out _ (HV.out.below D0.out)).mono ?_; rintro e u1 ⟨rfl, b⟩; have D1 := Lib.hid (bt D0.out b); clear b)
          | (go_at_call 20; (with_reducible refine (C2.out _ (HV.out.below D1.out)).mono ?_); rintro e u2 ⟨rfl, b⟩; have D2 := Lib.hid (bt D1.out b); clear b)
          | (go_at_call 20; (with_reducible refine (C3.out _ (HV.out.below D2.out)).mono ?_); rintro e u3 ⟨rfl, b⟩; have D3 := Lib.hid (bt D2.out b); clear b)
          | (go_at_call 34; (with_reducible refine (C4.out _ (HV.out.below D3.out)).mono ?_); rintro e u4 ⟨rfl, b⟩; have D4 := Lib.hid (bt D3.out b); clear b)
          | (go_at_call 34; (with_reducible refine (C5.out _ (HV.out.below D4.out)).mono ?_); rintro e u5 ⟨rfl, b⟩; have D5 := Lib.hid (bt D4.out b); clear b))
        go_ret
        exact ⟨rfl, D5.out⟩
  · have HF := Lib.hid (fits_two 900 (by omega) sa sb false (by simpa using hf))
    clear hf
    go_enter Tryd.func8, Tryd.ntmps8
    go_wp2_with (first
      | (go_at_call 21; refine (HAL.out _ HV.out).mono ?_; rintro e w0 ⟨rfl, b0⟩; have B0 := Lib.hid b0; clear b0)
      | (go_at_call 33; refine (HF.out _ _).mono ?_; rintro e u0 ⟨rfl, b⟩; have D0 := Lib.hid (bt (bt B0.out ((Below.refl _ w0).alloc (Nat.le_refl _) _)) b); clear b))
    go_ret
    exact ⟨rfl, D0.out⟩
end Go.Proofs.YtlipjedofegciaaDoor

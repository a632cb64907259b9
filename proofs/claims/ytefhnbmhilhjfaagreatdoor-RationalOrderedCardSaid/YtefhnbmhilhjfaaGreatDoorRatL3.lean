/- The walk of the law RationalOrdered. -/
import Derived.Test.YtefhnbmhilhjfaaGreatDoorRatAg
namespace Go.Proofs.YtefhnbmhilhjfaaGreatDoor
open Go Go.RowKit

theorem cmpQ_three (a b : Rat) : cmpQ a b = -1 ∨ cmpQ a b = 0 ∨ cmpQ a b = 1 := by
  rcases cmpQ_tri a b with ⟨_, e⟩ | ⟨_, e⟩ | ⟨_, e⟩
  · exact .inl e
  · exact .inr (.inl e)
  · exact .inr (.inr e)
theorem same_text {a b : Rat} {sa sb : ByteArray} (r_a : rq a = sa) (r_b : rq b = sb) : (sa.toList == sb.toList) = decide (cmpQ a b = 0) := by
  rw [Lib.toList_data, Lib.toList_data, Bool.eq_iff_iff, beq_iff_eq, decide_eq_true_iff]
  constructor
  · intro h
    have e : rq a = rq b := by rw [r_a, r_b]; exact WideShapes.bytes_inj h
    rw [rq_inj e, cmpQ_eq]
  · intro h
    rcases cmpQ_tri a b with ⟨_, e⟩ | ⟨e, _⟩ | ⟨_, e⟩
    · rw [e] at h; cases h
    · rw [← r_a, ← r_b, e]
    · rw [e] at h; cases h
set_option maxRecDepth 100000 in
set_option maxHeartbeats 12800000 in
theorem rordered_lt (a b c : Rat) (sa sb sc : ByteArray) (r_a : rq a = sa) (r_b : rq b = sb) (r_c : rq c = sc) (ha : QD 100 a) (hb : QD 100 b) (hc : QD 100 c) (hf : fitR 100 [sa, sb, sc] = true) (hx : cmpQ a b = -1) (w : World) (hv : VarR w) :
    Calls Tryz.prog 8 #[.string sa, .string sb, .string sc] w fun e w' => e = .returned (.bool true) ∧ Below w.heap.size w w' := by
  have HAL := Lib.hid ralive_any
  have HV := Lib.hid hv
  have HF := Lib.hid (rfits_three 100 (by omega) sa sb sc true hf)
  obtain ⟨s1, r_1⟩ : ∃ r, rq (a + c) = r := ⟨_, rfl⟩
  obtain ⟨s2, r_2⟩ : ∃ r, rq (b + c) = r := ⟨_, rfl⟩
  obtain ⟨s3, r_3⟩ : ∃ r, rq (a * c) = r := ⟨_, rfl⟩
  obtain ⟨s4, r_4⟩ : ∃ r, rq (b * c) = r := ⟨_, rfl⟩
  have r_z := rq_zero
  obtain ⟨z, hz⟩ : ∃ z, cmpQ b c = z := ⟨_, rfl⟩
  obtain ⟨v, hw⟩ : ∃ v, cmpQ a c = v := ⟨_, rfl⟩
  have C1 := Lib.hid (c_rat ha hb (by omega) hx _ _ r_a r_b)
  have C2 := Lib.hid (c_rat (c := 1) hb ha (by omega) ((cmpQ_swap a b).trans (by rw [hx] <;> rfl)) _ _ r_b r_a)
  have C3 := Lib.hid (c_rat hb hc (by omega) hz _ _ r_b r_c)
  have C4 := Lib.hid (c_rat ha hc (by omega) hw _ _ r_a r_c)
  have O1 := Lib.hid (o_radd ha hc (by omega) rfl _ _ _ r_a r_c r_1)
  have O2 := Lib.hid (o_radd hb hc (by omega) rfl _ _ _ r_b r_c r_2)
  have C5 := Lib.hid (c_rat (ha.add hc) (hb.add hc) (by omega) ((cmpQ_add a b c).trans hx) _ _ r_1 r_2)
  have O3 := Lib.hid (o_rmul ha hc (by omega) rfl _ _ _ r_a r_c r_3)
  have O4 := Lib.hid (o_rmul hb hc (by omega) rfl _ _ _ r_b r_c r_4)
  have he : (sa.toList == sb.toList) = false := by rw [same_text r_a r_b, hx]; rfl
  have ht := fun h1 h2 => cmpQ_trans (a := a) (b := b) (c := c) h1 h2
  rw [hx, hz, hw] at ht
  have F6 := fun g (hg : cmpQ c 0 = g) => c_rat hc qd_zero (by omega) hg _ _ r_c r_z
  have F7 := fun g (hg : cmpQ c 0 = g) m (hm : (-1) * g = m) => c_rat (c := m) (ha.mul hc) (hb.mul hc) (by omega) ((cmpQ_mul a b c).trans (by rw [hx, hg]; exact hm)) _ _ r_3 r_4
  have hg3 := cmpQ_three c 0
  have hzz : (z ≤ 0 ∧ v < 0) ∨ 0 < z := by
    by_cases h : z ≤ 0
    · left; refine ⟨h, ?_⟩; (have h5 := ht (by decide) h; omega)
    · right; omega
  clear ht hz hw hx hf hv
  rcases hg3 with hg | hg | hg
  · have C6 := Lib.hid (F6 (-1) hg)
    have C7 := Lib.hid (F7 (-1) hg 1 rfl)
    clear F6 F7 hg ha hb hc r_a r_b r_c r_1 r_2 r_3 r_4 r_z
    clear a b c
    rcases hzz with ⟨h1, h2⟩ | h1
    · have h3 : decide (0 < v) = false := decide_eq_false (by omega)
      have h4 : decide (0 ≤ v) = false := decide_eq_false (by omega)
      go_enter Tryz.func8, Tryz.ntmps8
      go_wp2_with (first
        | (go_at_call 22; refine (HAL.out _ HV.out).mono ?_; rintro e w0 ⟨rfl, b0⟩; have B0 := Lib.hid b0; clear b0)
        | (go_at_call 34; refine (HF.out _ _).mono ?_; rintro e u0 ⟨rfl, b⟩; have D0 := Lib.hid (bt (bt B0.out ((Below.refl _ w0).alloc (Nat.le_refl _) _)) b); clear b)
        | (go_at_call 15; (with_reducible refine (C1.out _ (HV.out.below D0.out)).mono ?_); rintro e u1 ⟨rfl, b⟩; have D1 := Lib.hid (bt D0.out b); clear b)
        | (go_at_call 15; (with_reducible refine (C2.out _ (HV.out.below D1.out)).mono ?_); rintro e u2 ⟨rfl, b⟩; have D2 := Lib.hid (bt D1.out b); clear b)
        | (go_at_call 15; (with_reducible refine (C3.out _ (HV.out.below D2.out)).mono ?_); rintro e u3 ⟨rfl, b⟩; have D3 := Lib.hid (bt D2.out b); clear b)
        | (go_at_call 15; (with_reducible refine (C4.out _ (HV.out.below D3.out)).mono ?_); rintro e u4 ⟨rfl, b⟩; have D4 := Lib.hid (bt D3.out b); clear b)
        | (go_at_call 35; (with_reducible refine (O1.out _ (HV.out.below D4.out)).mono ?_); rintro e u5 ⟨rfl, b⟩; have D5 := Lib.hid (bt D4.out b); clear b)
        | (go_at_call 35; (with_reducible refine (O2.out _ (HV.out.below D5.out)).mono ?_); rintro e u6 ⟨rfl, b⟩; have D6 := Lib.hid (bt D5.out b); clear b)
        | (go_at_call 15; (with_reducible refine (C5.out _ (HV.out.below D6.out)).mono ?_); rintro e u7 ⟨rfl, b⟩; have D7 := Lib.hid (bt D6.out b); clear b)
        | (go_at_call 15; (with_reducible refine (C6.out _ (HV.out.below D7.out)).mono ?_); rintro e u8 ⟨rfl, b⟩; have D8 := Lib.hid (bt D7.out b); clear b)
        | (go_at_call 35; (with_reducible refine (O3.out _ (HV.out.below D8.out)).mono ?_); rintro e u9 ⟨rfl, b⟩; have D9 := Lib.hid (bt D8.out b); clear b)
        | (go_at_call 35; (with_reducible refine (O4.out _ (HV.out.below D9.out)).mono ?_); rintro e u10 ⟨rfl, b⟩; have D10 := Lib.hid (bt D9.out b); clear b)
        | (go_at_call 15; (with_reducible refine (C7.out _ (HV.out.below D10.out)).mono ?_); rintro e u11 ⟨rfl, b⟩; have D11 := Lib.hid (bt D10.out b); clear b))
      go_ret
      exact ⟨rfl, D11.out⟩
    · have h3 : decide (z ≤ 0) = false := decide_eq_false (by omega)
      go_enter Tryz.func8, Tryz.ntmps8
      go_wp2_with (first
        | (go_at_call 22; refine (HAL.out _ HV.out).mono ?_; rintro e w0 ⟨rfl, b0⟩; have B0 := Lib.hid b0; clear b0)
        | (go_at_call 34; refine (HF.out _ _).mono ?_; rintro e u0 ⟨rfl, b⟩; have D0 := Lib.hid (bt (bt B0.out ((Below.refl _ w0).alloc (Nat.le_refl _) _)) b); clear b)
        | (go_at_call 15; (with_reducible refine (C1.out _ (HV.out.below D0.out)).mono ?_); rintro e u1 ⟨rfl, b⟩; have D1 := Lib.hid (bt D0.out b); clear b)
        | (go_at_call 15; (with_reducible refine (C2.out _ (HV.out.below D1.out)).mono ?_); rintro e u2 ⟨rfl, b⟩; have D2 := Lib.hid (bt D1.out b); clear b)
        | (go_at_call 15; (with_reducible refine (C3.out _ (HV.out.below D2.out)).mono ?_); rintro e u3 ⟨rfl, b⟩; have D3 := Lib.hid (bt D2.out b); clear b)
        | (go_at_call 15; (with_reducible refine (C4.out _ (HV.out.below D3.out)).mono ?_); rintro e u4 ⟨rfl, b⟩; have D4 := Lib.hid (bt D3.out b); clear b)
        | (go_at_call 35; (with_reducible refine (O1.out _ (HV.out.below D4.out)).mono ?_); rintro e u5 ⟨rfl, b⟩; have D5 := Lib.hid (bt D4.out b); clear b)
        | (go_at_call 35; (with_reducible refine (O2.out _ (HV.out.below D5.out)).mono ?_); rintro e u6 ⟨rfl, b⟩; have D6 := Lib.hid (bt D5.out b); clear b)
        | (go_at_call 15; (with_reducible refine (C5.out _ (HV.out.below D6.out)).mono ?_); rintro e u7 ⟨rfl, b⟩; have D7 := Lib.hid (bt D6.out b); clear b)
        | (go_at_call 15; (with_reducible refine (C6.out _ (HV.out.below D7.out)).mono ?_); rintro e u8 ⟨rfl, b⟩; have D8 := Lib.hid (bt D7.out b); clear b)
        | (go_at_call 35; (with_reducible refine (O3.out _ (HV.out.below D8.out)).mono ?_); rintro e u9 ⟨rfl, b⟩; have D9 := Lib.hid (bt D8.out b); clear b)
        | (go_at_call 35; (with_reducible refine (O4.out _ (HV.out.below D9.out)).mono ?_); rintro e u10 ⟨rfl, b⟩; have D10 := Lib.hid (bt D9.out b); clear b)
        | (go_at_call 15; (with_reducible refine (C7.out _ (HV.out.below D10.out)).mono ?_); rintro e u11 ⟨rfl, b⟩; have D11 := Lib.hid (bt D10.out b); clear b))
      go_ret
      exact ⟨rfl, D11.out⟩
  · have C6 := Lib.hid (F6 0 hg)
    have C7 := Lib.hid (F7 0 hg 0 rfl)
    clear F6 F7 hg ha hb hc r_a r_b r_c r_1 r_2 r_3 r_4 r_z
    clear a b c
    rcases hzz with ⟨h1, h2⟩ | h1
    · have h3 : decide (0 < v) = false := decide_eq_false (by omega)
      have h4 : decide (0 ≤ v) = false := decide_eq_false (by omega)
      go_enter Tryz.func8, Tryz.ntmps8
      go_wp2_with (first
        | (go_at_call 22; refine (HAL.out _ HV.out).mono ?_; rintro e w0 ⟨rfl, b0⟩; have B0 := Lib.hid b0; clear b0)
        | (go_at_call 34; refine (HF.out _ _).mono ?_; rintro e u0 ⟨rfl, b⟩; have D0 := Lib.hid (bt (bt B0.out ((Below.refl _ w0).alloc (Nat.le_refl _) _)) b); clear b)
        | (go_at_call 15; (with_reducible refine (C1.out _ (HV.out.below D0.out)).mono ?_); rintro e u1 ⟨rfl, b⟩; have D1 := Lib.hid (bt D0.out b); clear b)
        | (go_at_call 15; (with_reducible refine (C2.out _ (HV.out.below D1.out)).mono ?_); rintro e u2 ⟨rfl, b⟩; have D2 := Lib.hid (bt D1.out b); clear b)
        | (go_at_call 15; (with_reducible refine (C3.out _ (HV.out.below D2.out)).mono ?_); rintro e u3 ⟨rfl, b⟩; have D3 := Lib.hid (bt D2.out b); clear b)
        | (go_at_call 15; (with_reducible refine (C4.out _ (HV.out.below D3.out)).mono ?_); rintro e u4 ⟨rfl, b⟩; have D4 := Lib.hid (bt D3.out b); clear b)
        | (go_at_call 35; (with_reducible refine (O1.out _ (HV.out.below D4.out)).mono ?_); rintro e u5 ⟨rfl, b⟩; have D5 := Lib.hid (bt D4.out b); clear b)
        | (go_at_call 35; (with_reducible refine (O2.out _ (HV.out.below D5.out)).mono ?_); rintro e u6 ⟨rfl, b⟩; have D6 := Lib.hid (bt D5.out b); clear b)
        | (go_at_call 15; (with_reducible refine (C5.out _ (HV.out.below D6.out)).mono ?_); rintro e u7 ⟨rfl, b⟩; have D7 := Lib.hid (bt D6.out b); clear b)
        | (go_at_call 15; (with_reducible refine (C6.out _ (HV.out.below D7.out)).mono ?_); rintro e u8 ⟨rfl, b⟩; have D8 := Lib.hid (bt D7.out b); clear b)
        | (go_at_call 35; (with_reducible refine (O3.out _ (HV.out.below D8.out)).mono ?_); rintro e u9 ⟨rfl, b⟩; have D9 := Lib.hid (bt D8.out b); clear b)
        | (go_at_call 35; (with_reducible refine (O4.out _ (HV.out.below D9.out)).mono ?_); rintro e u10 ⟨rfl, b⟩; have D10 := Lib.hid (bt D9.out b); clear b)
        | (go_at_call 15; (with_reducible refine (C7.out _ (HV.out.below D10.out)).mono ?_); rintro e u11 ⟨rfl, b⟩; have D11 := Lib.hid (bt D10.out b); clear b))
      go_ret
      exact ⟨rfl, D11.out⟩
    · have h3 : decide (z ≤ 0) = false := decide_eq_false (by omega)
      go_enter Tryz.func8, Tryz.ntmps8
      go_wp2_with (first
        | (go_at_call 22; refine (HAL.out _ HV.out).mono ?_; rintro e w0 ⟨rfl, b0⟩; have B0 := Lib.hid b0; clear b0)
        | (go_at_call 34; refine (HF.out _ _).mono ?_; rintro e u0 ⟨rfl, b⟩; have D0 := Lib.hid (bt (bt B0.out ((Below.refl _ w0).alloc (Nat.le_refl _) _)) b); clear b)
        | (go_at_call 15; (with_reducible refine (C1.out _ (HV.out.below D0.out)).mono ?_); rintro e u1 ⟨rfl, b⟩; have D1 := Lib.hid (bt D0.out b); clear b)
        | (go_at_call 15; (with_reducible refine (C2.out _ (HV.out.below D1.out)).mono ?_); rintro e u2 ⟨rfl, b⟩; have D2 := Lib.hid (bt D1.out b); clear b)
        | (go_at_call 15; (with_reducible refine (C3.out _ (HV.out.below D2.out)).mono ?_); rintro e u3 ⟨rfl, b⟩; have D3 := Lib.hid (bt D2.out b); clear b)
        | (go_at_call 15; (with_reducible refine (C4.out _ (HV.out.below D3.out)).mono ?_); rintro e u4 ⟨rfl, b⟩; have D4 := Lib.hid (bt D3.out b); clear b)
        | (go_at_call 35; (with_reducible refine (O1.out _ (HV.out.below D4.out)).mono ?_); rintro e u5 ⟨rfl, b⟩; have D5 := Lib.hid (bt D4.out b); clear b)
        | (go_at_call 35; (with_reducible refine (O2.out _ (HV.out.below D5.out)).mono ?_); rintro e u6 ⟨rfl, b⟩; have D6 := Lib.hid (bt D5.out b); clear b)
        | (go_at_call 15; (with_reducible refine (C5.out _ (HV.out.below D6.out)).mono ?_); rintro e u7 ⟨rfl, b⟩; have D7 := Lib.hid (bt D6.out b); clear b)
        | (go_at_call 15; (with_reducible refine (C6.out _ (HV.out.below D7.out)).mono ?_); rintro e u8 ⟨rfl, b⟩; have D8 := Lib.hid (bt D7.out b); clear b)
        | (go_at_call 35; (with_reducible refine (O3.out _ (HV.out.below D8.out)).mono ?_); rintro e u9 ⟨rfl, b⟩; have D9 := Lib.hid (bt D8.out b); clear b)
        | (go_at_call 35; (with_reducible refine (O4.out _ (HV.out.below D9.out)).mono ?_); rintro e u10 ⟨rfl, b⟩; have D10 := Lib.hid (bt D9.out b); clear b)
        | (go_at_call 15; (with_reducible refine (C7.out _ (HV.out.below D10.out)).mono ?_); rintro e u11 ⟨rfl, b⟩; have D11 := Lib.hid (bt D10.out b); clear b))
      go_ret
      exact ⟨rfl, D11.out⟩
  · have C6 := Lib.hid (F6 1 hg)
    have C7 := Lib.hid (F7 1 hg (-1) rfl)
    clear F6 F7 hg ha hb hc r_a r_b r_c r_1 r_2 r_3 r_4 r_z
    clear a b c
    rcases hzz with ⟨h1, h2⟩ | h1
    · have h3 : decide (0 < v) = false := decide_eq_false (by omega)
      have h4 : decide (0 ≤ v) = false := decide_eq_false (by omega)
      go_enter Tryz.func8, Tryz.ntmps8
      go_wp2_with (first
        | (go_at_call 22; refine (HAL.out _ HV.out).mono ?_; rintro e w0 ⟨rfl, b0⟩; have B0 := Lib.hid b0; clear b0)
        | (go_at_call 34; refine (HF.out _ _).mono ?_; rintro e u0 ⟨rfl, b⟩; have D0 := Lib.hid (bt (bt B0.out ((Below.refl _ w0).alloc (Nat.le_refl _) _)) b); clear b)
        | (go_at_call 15; (with_reducible refine (C1.out _ (HV.out.below D0.out)).mono ?_); rintro e u1 ⟨rfl, b⟩; have D1 := Lib.hid (bt D0.out b); clear b)
        | (go_at_call 15; (with_reducible refine (C2.out _ (HV.out.below D1.out)).mono ?_); rintro e u2 ⟨rfl, b⟩; have D2 := Lib.hid (bt D1.out b); clear b)
        | (go_at_call 15; (with_reducible refine (C3.out _ (HV.out.below D2.out)).mono ?_); rintro e u3 ⟨rfl, b⟩; have D3 := Lib.hid (bt D2.out b); clear b)
        | (go_at_call 15; (with_reducible refine (C4.out _ (HV.out.below D3.out)).mono ?_); rintro e u4 ⟨rfl, b⟩; have D4 := Lib.hid (bt D3.out b); clear b)
        | (go_at_call 35; (with_reducible refine (O1.out _ (HV.out.below D4.out)).mono ?_); rintro e u5 ⟨rfl, b⟩; have D5 := Lib.hid (bt D4.out b); clear b)
        | (go_at_call 35; (with_reducible refine (O2.out _ (HV.out.below D5.out)).mono ?_); rintro e u6 ⟨rfl, b⟩; have D6 := Lib.hid (bt D5.out b); clear b)
        | (go_at_call 15; (with_reducible refine (C5.out _ (HV.out.below D6.out)).mono ?_); rintro e u7 ⟨rfl, b⟩; have D7 := Lib.hid (bt D6.out b); clear b)
        | (go_at_call 15; (with_reducible refine (C6.out _ (HV.out.below D7.out)).mono ?_); rintro e u8 ⟨rfl, b⟩; have D8 := Lib.hid (bt D7.out b); clear b)
        | (go_at_call 35; (with_reducible refine (O3.out _ (HV.out.below D8.out)).mono ?_); rintro e u9 ⟨rfl, b⟩; have D9 := Lib.hid (bt D8.out b); clear b)
        | (go_at_call 35; (with_reducible refine (O4.out _ (HV.out.below D9.out)).mono ?_); rintro e u10 ⟨rfl, b⟩; have D10 := Lib.hid (bt D9.out b); clear b)
        | (go_at_call 15; (with_reducible refine (C7.out _ (HV.out.below D10.out)).mono ?_); rintro e u11 ⟨rfl, b⟩; have D11 := Lib.hid (bt D10.out b); clear b))
      go_ret
      exact ⟨rfl, D11.out⟩
    · have h3 : decide (z ≤ 0) = false := decide_eq_false (by omega)
      go_enter Tryz.func8, Tryz.ntmps8
      go_wp2_with (first
        | (go_at_call 22; refine (HAL.out _ HV.out).mono ?_; rintro e w0 ⟨rfl, b0⟩; have B0 := Lib.hid b0; clear b0)
        | (go_at_call 34; refine (HF.out _ _).mono ?_; rintro e u0 ⟨rfl, b⟩; have D0 := Lib.hid (bt (bt B0.out ((Below.refl _ w0).alloc (Nat.le_refl _) _)) b); clear b)
        | (go_at_call 15; (with_reducible refine (C1.out _ (HV.out.below D0.out)).mono ?_); rintro e u1 ⟨rfl, b⟩; have D1 := Lib.hid (bt D0.out b); clear b)
        | (go_at_call 15; (with_reducible refine (C2.out _ (HV.out.below D1.out)).mono ?_); rintro e u2 ⟨rfl, b⟩; have D2 := Lib.hid (bt D1.out b); clear b)
        | (go_at_call 15; (with_reducible refine (C3.out _ (HV.out.below D2.out)).mono ?_); rintro e u3 ⟨rfl, b⟩; have D3 := Lib.hid (bt D2.out b); clear b)
        | (go_at_call 15; (with_reducible refine (C4.out _ (HV.out.below D3.out)).mono ?_); rintro e u4 ⟨rfl, b⟩; have D4 := Lib.hid (bt D3.out b); clear b)
        | (go_at_call 35; (with_reducible refine (O1.out _ (HV.out.below D4.out)).mono ?_); rintro e u5 ⟨rfl, b⟩; have D5 := Lib.hid (bt D4.out b); clear b)
        | (go_at_call 35; (with_reducible refine (O2.out _ (HV.out.below D5.out)).mono ?_); rintro e u6 ⟨rfl, b⟩; have D6 := Lib.hid (bt D5.out b); clear b)
        | (go_at_call 15; (with_reducible refine (C5.out _ (HV.out.below D6.out)).mono ?_); rintro e u7 ⟨rfl, b⟩; have D7 := Lib.hid (bt D6.out b); clear b)
        | (go_at_call 15; (with_reducible refine (C6.out _ (HV.out.below D7.out)).mono ?_); rintro e u8 ⟨rfl, b⟩; have D8 := Lib.hid (bt D7.out b); clear b)
        | (go_at_call 35; (with_reducible refine (O3.out _ (HV.out.below D8.out)).mono ?_); rintro e u9 ⟨rfl, b⟩; have D9 := Lib.hid (bt D8.out b); clear b)
        | (go_at_call 35; (with_reducible refine (O4.out _ (HV.out.below D9.out)).mono ?_); rintro e u10 ⟨rfl, b⟩; have D10 := Lib.hid (bt D9.out b); clear b)
        | (go_at_call 15; (with_reducible refine (C7.out _ (HV.out.below D10.out)).mono ?_); rintro e u11 ⟨rfl, b⟩; have D11 := Lib.hid (bt D10.out b); clear b))
      go_ret
      exact ⟨rfl, D11.out⟩
set_option maxRecDepth 100000 in
set_option maxHeartbeats 12800000 in
theorem rordered_eq (a b c : Rat) (sa sb sc : ByteArray) (r_a : rq a = sa) (r_b : rq b = sb) (r_c : rq c = sc) (ha : QD 100 a) (hb : QD 100 b) (hc : QD 100 c) (hf : fitR 100 [sa, sb, sc] = true) (hx : cmpQ a b = 0) (w : World) (hv : VarR w) :
    Calls Tryz.prog 8 #[.string sa, .string sb, .string sc] w fun e w' => e = .returned (.bool true) ∧ Below w.heap.size w w' := by
  have HAL := Lib.hid ralive_any
  have HV := Lib.hid hv
  have HF := Lib.hid (rfits_three 100 (by omega) sa sb sc true hf)
  obtain ⟨s1, r_1⟩ : ∃ r, rq (a + c) = r := ⟨_, rfl⟩
  obtain ⟨s2, r_2⟩ : ∃ r, rq (b + c) = r := ⟨_, rfl⟩
  obtain ⟨s3, r_3⟩ : ∃ r, rq (a * c) = r := ⟨_, rfl⟩
  obtain ⟨s4, r_4⟩ : ∃ r, rq (b * c) = r := ⟨_, rfl⟩
  have r_z := rq_zero
  obtain ⟨z, hz⟩ : ∃ z, cmpQ b c = z := ⟨_, rfl⟩
  obtain ⟨v, hw⟩ : ∃ v, cmpQ a c = v := ⟨_, rfl⟩
  have C1 := Lib.hid (c_rat ha hb (by omega) hx _ _ r_a r_b)
  have C2 := Lib.hid (c_rat (c := 0) hb ha (by omega) ((cmpQ_swap a b).trans (by rw [hx] <;> rfl)) _ _ r_b r_a)
  have C3 := Lib.hid (c_rat hb hc (by omega) hz _ _ r_b r_c)
  have C4 := Lib.hid (c_rat ha hc (by omega) hw _ _ r_a r_c)
  have O1 := Lib.hid (o_radd ha hc (by omega) rfl _ _ _ r_a r_c r_1)
  have O2 := Lib.hid (o_radd hb hc (by omega) rfl _ _ _ r_b r_c r_2)
  have C5 := Lib.hid (c_rat (ha.add hc) (hb.add hc) (by omega) ((cmpQ_add a b c).trans hx) _ _ r_1 r_2)
  have O3 := Lib.hid (o_rmul ha hc (by omega) rfl _ _ _ r_a r_c r_3)
  have O4 := Lib.hid (o_rmul hb hc (by omega) rfl _ _ _ r_b r_c r_4)
  have he : (sa.toList == sb.toList) = true := by rw [same_text r_a r_b, hx]; rfl
  have ht := fun h1 h2 => cmpQ_trans (a := a) (b := b) (c := c) h1 h2
  rw [hx, hz, hw] at ht
  have F6 := fun g (hg : cmpQ c 0 = g) => c_rat hc qd_zero (by omega) hg _ _ r_c r_z
  have F7 := fun g (hg : cmpQ c 0 = g) m (hm : 0 * g = m) => c_rat (c := m) (ha.mul hc) (hb.mul hc) (by omega) ((cmpQ_mul a b c).trans (by rw [hx, hg]; exact hm)) _ _ r_3 r_4
  have hg3 := cmpQ_three c 0
  have hzz : (z ≤ 0 ∧ v ≤ 0) ∨ 0 < z := by
    by_cases h : z ≤ 0
    · left; refine ⟨h, ?_⟩; (have h5 := ht (by decide) h; omega)
    · right; omega
  clear ht hz hw hx hf hv
  rcases hg3 with hg | hg | hg
  · have C6 := Lib.hid (F6 (-1) hg)
    have C7 := Lib.hid (F7 (-1) hg 0 rfl)
    clear F6 F7 hg ha hb hc r_a r_b r_c r_1 r_2 r_3 r_4 r_z
    clear a b c
    rcases hzz with ⟨h1, h2⟩ | h1
    · have h3 : decide (0 < v) = false := decide_eq_false (by omega)
      go_enter Tryz.func8, Tryz.ntmps8
      go_wp2_with (first
        | (go_at_call 22; refine (HAL.out _ HV.out).mono ?_; rintro e w0 ⟨rfl, b0⟩; have B0 := Lib.hid b0; clear b0)
        | (go_at_call 34; refine (HF.out _ _).mono ?_; rintro e u0 ⟨rfl, b⟩; have D0 := Lib.hid (bt (bt B0.out ((Below.refl _ w0).alloc (Nat.le_refl _) _)) b); clear b)
        | (go_at_call 15; (with_reducible refine (C1.out _ (HV.out.below D0.out)).mono ?_); rintro e u1 ⟨rfl, b⟩; have D1 := Lib.hid (bt D0.out b); clear b)
        | (go_at_call 15; (with_reducible refine (C2.out _ (HV.out.below D1.out)).mono ?_); rintro e u2 ⟨rfl, b⟩; have D2 := Lib.hid (bt D1.out b); clear b)
        | (go_at_call 15; (with_reducible refine (C3.out _ (HV.out.below D2.out)).mono ?_); rintro e u3 ⟨rfl, b⟩; have D3 := Lib.hid (bt D2.out b); clear b)
        | (go_at_call 15; (with_reducible refine (C4.out _ (HV.out.below D3.out)).mono ?_); rintro e u4 ⟨rfl, b⟩; have D4 := Lib.hid (bt D3.out b); clear b)
        | (go_at_call 35; (with_reducible refine (O1.out _ (HV.out.below D4.out)).mono ?_); rintro e u5 ⟨rfl, b⟩; have D5 := Lib.hid (bt D4.out b); clear b)
        | (go_at_call 35; (with_reducible refine (O2.out _ (HV.out.below D5.out)).mono ?_); rintro e u6 ⟨rfl, b⟩; have D6 := Lib.hid (bt D5.out b); clear b)
        | (go_at_call 15; (with_reducible refine (C5.out _ (HV.out.below D6.out)).mono ?_); rintro e u7 ⟨rfl, b⟩; have D7 := Lib.hid (bt D6.out b); clear b)
        | (go_at_call 15; (with_reducible refine (C6.out _ (HV.out.below D7.out)).mono ?_); rintro e u8 ⟨rfl, b⟩; have D8 := Lib.hid (bt D7.out b); clear b)
        | (go_at_call 35; (with_reducible refine (O3.out _ (HV.out.below D8.out)).mono ?_); rintro e u9 ⟨rfl, b⟩; have D9 := Lib.hid (bt D8.out b); clear b)
        | (go_at_call 35; (with_reducible refine (O4.out _ (HV.out.below D9.out)).mono ?_); rintro e u10 ⟨rfl, b⟩; have D10 := Lib.hid (bt D9.out b); clear b)
        | (go_at_call 15; (with_reducible refine (C7.out _ (HV.out.below D10.out)).mono ?_); rintro e u11 ⟨rfl, b⟩; have D11 := Lib.hid (bt D10.out b); clear b))
      go_ret
      exact ⟨rfl, D11.out⟩
    · have h3 : decide (z ≤ 0) = false := decide_eq_false (by omega)
      go_enter Tryz.func8, Tryz.ntmps8
      go_wp2_with (first
        | (go_at_call 22; refine (HAL.out _ HV.out).mono ?_; rintro e w0 ⟨rfl, b0⟩; have B0 := Lib.hid b0; clear b0)
        | (go_at_call 34; refine (HF.out _ _).mono ?_; rintro e u0 ⟨rfl, b⟩; have D0 := Lib.hid (bt (bt B0.out ((Below.refl _ w0).alloc (Nat.le_refl _) _)) b); clear b)
        | (go_at_call 15; (with_reducible refine (C1.out _ (HV.out.below D0.out)).mono ?_); rintro e u1 ⟨rfl, b⟩; have D1 := Lib.hid (bt D0.out b); clear b)
        | (go_at_call 15; (with_reducible refine (C2.out _ (HV.out.below D1.out)).mono ?_); rintro e u2 ⟨rfl, b⟩; have D2 := Lib.hid (bt D1.out b); clear b)
        | (go_at_call 15; (with_reducible refine (C3.out _ (HV.out.below D2.out)).mono ?_); rintro e u3 ⟨rfl, b⟩; have D3 := Lib.hid (bt D2.out b); clear b)
        | (go_at_call 15; (with_reducible refine (C4.out _ (HV.out.below D3.out)).mono ?_); rintro e u4 ⟨rfl, b⟩; have D4 := Lib.hid (bt D3.out b); clear b)
        | (go_at_call 35; (with_reducible refine (O1.out _ (HV.out.below D4.out)).mono ?_); rintro e u5 ⟨rfl, b⟩; have D5 := Lib.hid (bt D4.out b); clear b)
        | (go_at_call 35; (with_reducible refine (O2.out _ (HV.out.below D5.out)).mono ?_); rintro e u6 ⟨rfl, b⟩; have D6 := Lib.hid (bt D5.out b); clear b)
        | (go_at_call 15; (with_reducible refine (C5.out _ (HV.out.below D6.out)).mono ?_); rintro e u7 ⟨rfl, b⟩; have D7 := Lib.hid (bt D6.out b); clear b)
        | (go_at_call 15; (with_reducible refine (C6.out _ (HV.out.below D7.out)).mono ?_); rintro e u8 ⟨rfl, b⟩; have D8 := Lib.hid (bt D7.out b); clear b)
        | (go_at_call 35; (with_reducible refine (O3.out _ (HV.out.below D8.out)).mono ?_); rintro e u9 ⟨rfl, b⟩; have D9 := Lib.hid (bt D8.out b); clear b)
        | (go_at_call 35; (with_reducible refine (O4.out _ (HV.out.below D9.out)).mono ?_); rintro e u10 ⟨rfl, b⟩; have D10 := Lib.hid (bt D9.out b); clear b)
        | (go_at_call 15; (with_reducible refine (C7.out _ (HV.out.below D10.out)).mono ?_); rintro e u11 ⟨rfl, b⟩; have D11 := Lib.hid (bt D10.out b); clear b))
      go_ret
      exact ⟨rfl, D11.out⟩
  · have C6 := Lib.hid (F6 0 hg)
    have C7 := Lib.hid (F7 0 hg 0 rfl)
    clear F6 F7 hg ha hb hc r_a r_b r_c r_1 r_2 r_3 r_4 r_z
    clear a b c
    rcases hzz with ⟨h1, h2⟩ | h1
    · have h3 : decide (0 < v) = false := decide_eq_false (by omega)
      go_enter Tryz.func8, Tryz.ntmps8
      go_wp2_with (first
        | (go_at_call 22; refine (HAL.out _ HV.out).mono ?_; rintro e w0 ⟨rfl, b0⟩; have B0 := Lib.hid b0; clear b0)
        | (go_at_call 34; refine (HF.out _ _).mono ?_; rintro e u0 ⟨rfl, b⟩; have D0 := Lib.hid (bt (bt B0.out ((Below.refl _ w0).alloc (Nat.le_refl _) _)) b); clear b)
        | (go_at_call 15; (with_reducible refine (C1.out _ (HV.out.below D0.out)).mono ?_); rintro e u1 ⟨rfl, b⟩; have D1 := Lib.hid (bt D0.out b); clear b)
        | (go_at_call 15; (with_reducible refine (C2.out _ (HV.out.below D1.out)).mono ?_); rintro e u2 ⟨rfl, b⟩; have D2 := Lib.hid (bt D1.out b); clear b)
        | (go_at_call 15; (with_reducible refine (C3.out _ (HV.out.below D2.out)).mono ?_); rintro e u3 ⟨rfl, b⟩; have D3 := Lib.hid (bt D2.out b); clear b)
        | (go_at_call 15; (with_reducible refine (C4.out _ (HV.out.below D3.out)).mono ?_); rintro e u4 ⟨rfl, b⟩; have D4 := Lib.hid (bt D3.out b); clear b)
        | (go_at_call 35; (with_reducible refine (O1.out _ (HV.out.below D4.out)).mono ?_); rintro e u5 ⟨rfl, b⟩; have D5 := Lib.hid (bt D4.out b); clear b)
        | (go_at_call 35; (with_reducible refine (O2.out _ (HV.out.below D5.out)).mono ?_); rintro e u6 ⟨rfl, b⟩; have D6 := Lib.hid (bt D5.out b); clear b)
        | (go_at_call 15; (with_reducible refine (C5.out _ (HV.out.below D6.out)).mono ?_); rintro e u7 ⟨rfl, b⟩; have D7 := Lib.hid (bt D6.out b); clear b)
        | (go_at_call 15; (with_reducible refine (C6.out _ (HV.out.below D7.out)).mono ?_); rintro e u8 ⟨rfl, b⟩; have D8 := Lib.hid (bt D7.out b); clear b)
        | (go_at_call 35; (with_reducible refine (O3.out _ (HV.out.below D8.out)).mono ?_); rintro e u9 ⟨rfl, b⟩; have D9 := Lib.hid (bt D8.out b); clear b)
        | (go_at_call 35; (with_reducible refine (O4.out _ (HV.out.below D9.out)).mono ?_); rintro e u10 ⟨rfl, b⟩; have D10 := Lib.hid (bt D9.out b); clear b)
        | (go_at_call 15; (with_reducible refine (C7.out _ (HV.out.below D10.out)).mono ?_); rintro e u11 ⟨rfl, b⟩; have D11 := Lib.hid (bt D10.out b); clear b))
      go_ret
      exact ⟨rfl, D11.out⟩
    · have h3 : decide (z ≤ 0) = false := decide_eq_false (by omega)
      go_enter Tryz.func8, Tryz.ntmps8
      go_wp2_with (first
        | (go_at_call 22; refine (HAL.out _ HV.out).mono ?_; rintro e w0 ⟨rfl, b0⟩; have B0 := Lib.hid b0; clear b0)
        | (go_at_call 34; refine (HF.out _ _).mono ?_; rintro e u0 ⟨rfl, b⟩; have D0 := Lib.hid (bt (bt B0.out ((Below.refl _ w0).alloc (Nat.le_refl _) _)) b); clear b)
        | (go_at_call 15; (with_reducible refine (C1.out _ (HV.out.below D0.out)).mono ?_); rintro e u1 ⟨rfl, b⟩; have D1 := Lib.hid (bt D0.out b); clear b)
        | (go_at_call 15; (with_reducible refine (C2.out _ (HV.out.below D1.out)).mono ?_); rintro e u2 ⟨rfl, b⟩; have D2 := Lib.hid (bt D1.out b); clear b)
        | (go_at_call 15; (with_reducible refine (C3.out _ (HV.out.below D2.out)).mono ?_); rintro e u3 ⟨rfl, b⟩; have D3 := Lib.hid (bt D2.out b); clear b)
        | (go_at_call 15; (with_reducible refine (C4.out _ (HV.out.below D3.out)).mono ?_); rintro e u4 ⟨rfl, b⟩; have D4 := Lib.hid (bt D3.out b); clear b)
        | (go_at_call 35; (with_reducible refine (O1.out _ (HV.out.below D4.out)).mono ?_); rintro e u5 ⟨rfl, b⟩; have D5 := Lib.hid (bt D4.out b); clear b)
        | (go_at_call 35; (with_reducible refine (O2.out _ (HV.out.below D5.out)).mono ?_); rintro e u6 ⟨rfl, b⟩; have D6 := Lib.hid (bt D5.out b); clear b)
        | (go_at_call 15; (with_reducible refine (C5.out _ (HV.out.below D6.out)).mono ?_); rintro e u7 ⟨rfl, b⟩; have D7 := Lib.hid (bt D6.out b); clear b)
        | (go_at_call 15; (with_reducible refine (C6.out _ (HV.out.below D7.out)).mono ?_); rintro e u8 ⟨rfl, b⟩; have D8 := Lib.hid (bt D7.out b); clear b)
        | (go_at_call 35; (with_reducible refine (O3.out _ (HV.out.below D8.out)).mono ?_); rintro e u9 ⟨rfl, b⟩; have D9 := Lib.hid (bt D8.out b); clear b)
        | (go_at_call 35; (with_reducible refine (O4.out _ (HV.out.below D9.out)).mono ?_); rintro e u10 ⟨rfl, b⟩; have D10 := Lib.hid (bt D9.out b); clear b)
        | (go_at_call 15; (with_reducible refine (C7.out _ (HV.out.below D10.out)).mono ?_); rintro e u11 ⟨rfl, b⟩; have D11 := Lib.hid (bt D10.out b); clear b))
      go_ret
      exact ⟨rfl, D11.out⟩
  · have C6 := Lib.hid (F6 1 hg)
    have C7 := Lib.hid (F7 1 hg 0 rfl)
    clear F6 F7 hg ha hb hc r_a r_b r_c r_1 r_2 r_3 r_4 r_z
    clear a b c
    rcases hzz with ⟨h1, h2⟩ | h1
    · have h3 : decide (0 < v) = false := decide_eq_false (by omega)
      go_enter Tryz.func8, Tryz.ntmps8
      go_wp2_with (first
        | (go_at_call 22; refine (HAL.out _ HV.out).mono ?_; rintro e w0 ⟨rfl, b0⟩; have B0 := Lib.hid b0; clear b0)
        | (go_at_call 34; refine (HF.out _ _).mono ?_; rintro e u0 ⟨rfl, b⟩; have D0 := Lib.hid (bt (bt B0.out ((Below.refl _ w0).alloc (Nat.le_refl _) _)) b); clear b)
        | (go_at_call 15; (with_reducible refine (C1.out _ (HV.out.below D0.out)).mono ?_); rintro e u1 ⟨rfl, b⟩; have D1 := Lib.hid (bt D0.out b); clear b)
        | (go_at_call 15; (with_reducible refine (C2.out _ (HV.out.below D1.out)).mono ?_); rintro e u2 ⟨rfl, b⟩; have D2 := Lib.hid (bt D1.out b); clear b)
        | (go_at_call 15; (with_reducible refine (C3.out _ (HV.out.below D2.out)).mono ?_); rintro e u3 ⟨rfl, b⟩; have D3 := Lib.hid (bt D2.out b); clear b)
        | (go_at_call 15; (with_reducible refine (C4.out _ (HV.out.below D3.out)).mono ?_); rintro e u4 ⟨rfl, b⟩; have D4 := Lib.hid (bt D3.out b); clear b)
        | (go_at_call 35; (with_reducible refine (O1.out _ (HV.out.below D4.out)).mono ?_); rintro e u5 ⟨rfl, b⟩; have D5 := Lib.hid (bt D4.out b); clear b)
        | (go_at_call 35; (with_reducible refine (O2.out _ (HV.out.below D5.out)).mono ?_); rintro e u6 ⟨rfl, b⟩; have D6 := Lib.hid (bt D5.out b); clear b)
        | (go_at_call 15; (with_reducible refine (C5.out _ (HV.out.below D6.out)).mono ?_); rintro e u7 ⟨rfl, b⟩; have D7 := Lib.hid (bt D6.out b); clear b)
        | (go_at_call 15; (with_reducible refine (C6.out _ (HV.out.below D7.out)).mono ?_); rintro e u8 ⟨rfl, b⟩; have D8 := Lib.hid (bt D7.out b); clear b)
        | (go_at_call 35; (with_reducible refine (O3.out _ (HV.out.below D8.out)).mono ?_); rintro e u9 ⟨rfl, b⟩; have D9 := Lib.hid (bt D8.out b); clear b)
        | (go_at_call 35; (with_reducible refine (O4.out _ (HV.out.below D9.out)).mono ?_); rintro e u10 ⟨rfl, b⟩; have D10 := Lib.hid (bt D9.out b); clear b)
        | (go_at_call 15; (with_reducible refine (C7.out _ (HV.out.below D10.out)).mono ?_); rintro e u11 ⟨rfl, b⟩; have D11 := Lib.hid (bt D10.out b); clear b))
      go_ret
      exact ⟨rfl, D11.out⟩
    · have h3 : decide (z ≤ 0) = false := decide_eq_false (by omega)
      go_enter Tryz.func8, Tryz.ntmps8
      go_wp2_with (first
        | (go_at_call 22; refine (HAL.out _ HV.out).mono ?_; rintro e w0 ⟨rfl, b0⟩; have B0 := Lib.hid b0; clear b0)
        | (go_at_call 34; refine (HF.out _ _).mono ?_; rintro e u0 ⟨rfl, b⟩; have D0 := Lib.hid (bt (bt B0.out ((Below.refl _ w0).alloc (Nat.le_refl _) _)) b); clear b)
        | (go_at_call 15; (with_reducible refine (C1.out _ (HV.out.below D0.out)).mono ?_); rintro e u1 ⟨rfl, b⟩; have D1 := Lib.hid (bt D0.out b); clear b)
        | (go_at_call 15; (with_reducible refine (C2.out _ (HV.out.below D1.out)).mono ?_); rintro e u2 ⟨rfl, b⟩; have D2 := Lib.hid (bt D1.out b); clear b)
        | (go_at_call 15; (with_reducible refine (C3.out _ (HV.out.below D2.out)).mono ?_); rintro e u3 ⟨rfl, b⟩; have D3 := Lib.hid (bt D2.out b); clear b)
        | (go_at_call 15; (with_reducible refine (C4.out _ (HV.out.below D3.out)).mono ?_); rintro e u4 ⟨rfl, b⟩; have D4 := Lib.hid (bt D3.out b); clear b)
        | (go_at_call 35; (with_reducible refine (O1.out _ (HV.out.below D4.out)).mono ?_); rintro e u5 ⟨rfl, b⟩; have D5 := Lib.hid (bt D4.out b); clear b)
        | (go_at_call 35; (with_reducible refine (O2.out _ (HV.out.below D5.out)).mono ?_); rintro e u6 ⟨rfl, b⟩; have D6 := Lib.hid (bt D5.out b); clear b)
        | (go_at_call 15; (with_reducible refine (C5.out _ (HV.out.below D6.out)).mono ?_); rintro e u7 ⟨rfl, b⟩; have D7 := Lib.hid (bt D6.out b); clear b)
        | (go_at_call 15; (with_reducible refine (C6.out _ (HV.out.below D7.out)).mono ?_); rintro e u8 ⟨rfl, b⟩; have D8 := Lib.hid (bt D7.out b); clear b)
        | (go_at_call 35; (with_reducible refine (O3.out _ (HV.out.below D8.out)).mono ?_); rintro e u9 ⟨rfl, b⟩; have D9 := Lib.hid (bt D8.out b); clear b)
        | (go_at_call 35; (with_reducible refine (O4.out _ (HV.out.below D9.out)).mono ?_); rintro e u10 ⟨rfl, b⟩; have D10 := Lib.hid (bt D9.out b); clear b)
        | (go_at_call 15; (with_reducible refine (C7.out _ (HV.out.below D10.out)).mono ?_); rintro e u11 ⟨rfl, b⟩; have D11 := Lib.hid (bt D10.out b); clear b))
      go_ret
      exact ⟨rfl, D11.out⟩
set_option maxRecDepth 100000 in
set_option maxHeartbeats 12800000 in
theorem rordered_gt (a b c : Rat) (sa sb sc : ByteArray) (r_a : rq a = sa) (r_b : rq b = sb) (r_c : rq c = sc) (ha : QD 100 a) (hb : QD 100 b) (hc : QD 100 c) (hf : fitR 100 [sa, sb, sc] = true) (hx : cmpQ a b = 1) (w : World) (hv : VarR w) :
    Calls Tryz.prog 8 #[.string sa, .string sb, .string sc] w fun e w' => e = .returned (.bool true) ∧ Below w.heap.size w w' := by
  have HAL := Lib.hid ralive_any
  have HV := Lib.hid hv
  have HF := Lib.hid (rfits_three 100 (by omega) sa sb sc true hf)
  obtain ⟨s1, r_1⟩ : ∃ r, rq (a + c) = r := ⟨_, rfl⟩
  obtain ⟨s2, r_2⟩ : ∃ r, rq (b + c) = r := ⟨_, rfl⟩
  obtain ⟨s3, r_3⟩ : ∃ r, rq (a * c) = r := ⟨_, rfl⟩
  obtain ⟨s4, r_4⟩ : ∃ r, rq (b * c) = r := ⟨_, rfl⟩
  have r_z := rq_zero
  obtain ⟨z, hz⟩ : ∃ z, cmpQ b c = z := ⟨_, rfl⟩
  obtain ⟨v, hw⟩ : ∃ v, cmpQ a c = v := ⟨_, rfl⟩
  have C1 := Lib.hid (c_rat ha hb (by omega) hx _ _ r_a r_b)
  have C2 := Lib.hid (c_rat (c := (-1)) hb ha (by omega) ((cmpQ_swap a b).trans (by rw [hx] <;> rfl)) _ _ r_b r_a)
  have C3 := Lib.hid (c_rat hb hc (by omega) hz _ _ r_b r_c)
  have C4 := Lib.hid (c_rat ha hc (by omega) hw _ _ r_a r_c)
  have O1 := Lib.hid (o_radd ha hc (by omega) rfl _ _ _ r_a r_c r_1)
  have O2 := Lib.hid (o_radd hb hc (by omega) rfl _ _ _ r_b r_c r_2)
  have C5 := Lib.hid (c_rat (ha.add hc) (hb.add hc) (by omega) ((cmpQ_add a b c).trans hx) _ _ r_1 r_2)
  have O3 := Lib.hid (o_rmul ha hc (by omega) rfl _ _ _ r_a r_c r_3)
  have O4 := Lib.hid (o_rmul hb hc (by omega) rfl _ _ _ r_b r_c r_4)
  have he : (sa.toList == sb.toList) = false := by rw [same_text r_a r_b, hx]; rfl
  have ht := fun h1 h2 => cmpQ_trans (a := a) (b := b) (c := c) h1 h2
  rw [hx, hz, hw] at ht
  have F6 := fun g (hg : cmpQ c 0 = g) => c_rat hc qd_zero (by omega) hg _ _ r_c r_z
  have F7 := fun g (hg : cmpQ c 0 = g) m (hm : 1 * g = m) => c_rat (c := m) (ha.mul hc) (hb.mul hc) (by omega) ((cmpQ_mul a b c).trans (by rw [hx, hg]; exact hm)) _ _ r_3 r_4
  have hg3 := cmpQ_three c 0
  have hzz : (z ≤ 0 ∧ True) ∨ 0 < z := by
    by_cases h : z ≤ 0
    · left; refine ⟨h, ?_⟩; trivial
    · right; omega
  clear ht hz hw hx hf hv
  rcases hg3 with hg | hg | hg
  · have C6 := Lib.hid (F6 (-1) hg)
    have C7 := Lib.hid (F7 (-1) hg (-1) rfl)
    clear F6 F7 hg ha hb hc r_a r_b r_c r_1 r_2 r_3 r_4 r_z
    clear a b c
    rcases hzz with ⟨h1, h2⟩ | h1
    · have h3 : decide (z ≤ 0) = true := decide_eq_true h1
      go_enter Tryz.func8, Tryz.ntmps8
      go_wp2_with (first
        | (go_at_call 22; refine (HAL.out _ HV.out).mono ?_; rintro e w0 ⟨rfl, b0⟩; have B0 := Lib.hid b0; clear b0)
        | (go_at_call 34; refine (HF.out _ _).mono ?_; rintro e u0 ⟨rfl, b⟩; have D0 := Lib.hid (bt (bt B0.out ((Below.refl _ w0).alloc (Nat.le_refl _) _)) b); clear b)
        | (go_at_call 15; (with_reducible refine (C1.out _ (HV.out.below D0.out)).mono ?_); rintro e u1 ⟨rfl, b⟩; have D1 := Lib.hid (bt D0.out b); clear b)
        | (go_at_call 15; (with_reducible refine (C2.out _ (HV.out.below D1.out)).mono ?_); rintro e u2 ⟨rfl, b⟩; have D2 := Lib.hid (bt D1.out b); clear b)
        | (go_at_call 15; (with_reducible refine (C3.out _ (HV.out.below D2.out)).mono ?_); rintro e u3 ⟨rfl, b⟩; have D3 := Lib.hid (bt D2.out b); clear b)
        | (go_at_call 15; (with_reducible refine (C4.out _ (HV.out.below D3.out)).mono ?_); rintro e u4 ⟨rfl, b⟩; have D4 := Lib.hid (bt D3.out b); clear b)
        | (go_at_call 35; (with_reducible refine (O1.out _ (HV.out.below D4.out)).mono ?_); rintro e u5 ⟨rfl, b⟩; have D5 := Lib.hid (bt D4.out b); clear b)
        | (go_at_call 35; (with_reducible refine (O2.out _ (HV.out.below D5.out)).mono ?_); rintro e u6 ⟨rfl, b⟩; have D6 := Lib.hid (bt D5.out b); clear b)
        | (go_at_call 15; (with_reducible refine (C5.out _ (HV.out.below D6.out)).mono ?_); rintro e u7 ⟨rfl, b⟩; have D7 := Lib.hid (bt D6.out b); clear b)
        | (go_at_call 15; (with_reducible refine (C6.out _ (HV.out.below D7.out)).mono ?_); rintro e u8 ⟨rfl, b⟩; have D8 := Lib.hid (bt D7.out b); clear b)
        | (go_at_call 35; (with_reducible refine (O3.out _ (HV.out.below D8.out)).mono ?_); rintro e u9 ⟨rfl, b⟩; have D9 := Lib.hid (bt D8.out b); clear b)
        | (go_at_call 35; (with_reducible refine (O4.out _ (HV.out.below D9.out)).mono ?_); rintro e u10 ⟨rfl, b⟩; have D10 := Lib.hid (bt D9.out b); clear b)
        | (go_at_call 15; (with_reducible refine (C7.out _ (HV.out.below D10.out)).mono ?_); rintro e u11 ⟨rfl, b⟩; have D11 := Lib.hid (bt D10.out b); clear b))
      go_ret
      exact ⟨rfl, D11.out⟩
    · have h3 : decide (z ≤ 0) = false := decide_eq_false (by omega)
      go_enter Tryz.func8, Tryz.ntmps8
      go_wp2_with (first
        | (go_at_call 22; refine (HAL.out _ HV.out).mono ?_; rintro e w0 ⟨rfl, b0⟩; have B0 := Lib.hid b0; clear b0)
        | (go_at_call 34; refine (HF.out _ _).mono ?_; rintro e u0 ⟨rfl, b⟩; have D0 := Lib.hid (bt (bt B0.out ((Below.refl _ w0).alloc (Nat.le_refl _) _)) b); clear b)
        | (go_at_call 15; (with_reducible refine (C1.out _ (HV.out.below D0.out)).mono ?_); rintro e u1 ⟨rfl, b⟩; have D1 := Lib.hid (bt D0.out b); clear b)
        | (go_at_call 15; (with_reducible refine (C2.out _ (HV.out.below D1.out)).mono ?_); rintro e u2 ⟨rfl, b⟩; have D2 := Lib.hid (bt D1.out b); clear b)
        | (go_at_call 15; (with_reducible refine (C3.out _ (HV.out.below D2.out)).mono ?_); rintro e u3 ⟨rfl, b⟩; have D3 := Lib.hid (bt D2.out b); clear b)
        | (go_at_call 15; (with_reducible refine (C4.out _ (HV.out.below D3.out)).mono ?_); rintro e u4 ⟨rfl, b⟩; have D4 := Lib.hid (bt D3.out b); clear b)
        | (go_at_call 35; (with_reducible refine (O1.out _ (HV.out.below D4.out)).mono ?_); rintro e u5 ⟨rfl, b⟩; have D5 := Lib.hid (bt D4.out b); clear b)
        | (go_at_call 35; (with_reducible refine (O2.out _ (HV.out.below D5.out)).mono ?_); rintro e u6 ⟨rfl, b⟩; have D6 := Lib.hid (bt D5.out b); clear b)
        | (go_at_call 15; (with_reducible refine (C5.out _ (HV.out.below D6.out)).mono ?_); rintro e u7 ⟨rfl, b⟩; have D7 := Lib.hid (bt D6.out b); clear b)
        | (go_at_call 15; (with_reducible refine (C6.out _ (HV.out.below D7.out)).mono ?_); rintro e u8 ⟨rfl, b⟩; have D8 := Lib.hid (bt D7.out b); clear b)
        | (go_at_call 35; (with_reducible refine (O3.out _ (HV.out.below D8.out)).mono ?_); rintro e u9 ⟨rfl, b⟩; have D9 := Lib.hid (bt D8.out b); clear b)
        | (go_at_call 35; (with_reducible refine (O4.out _ (HV.out.below D9.out)).mono ?_); rintro e u10 ⟨rfl, b⟩; have D10 := Lib.hid (bt D9.out b); clear b)
        | (go_at_call 15; (with_reducible refine (C7.out _ (HV.out.below D10.out)).mono ?_); rintro e u11 ⟨rfl, b⟩; have D11 := Lib.hid (bt D10.out b); clear b))
      go_ret
      exact ⟨rfl, D11.out⟩
  · have C6 := Lib.hid (F6 0 hg)
    have C7 := Lib.hid (F7 0 hg 0 rfl)
    clear F6 F7 hg ha hb hc r_a r_b r_c r_1 r_2 r_3 r_4 r_z
    clear a b c
    rcases hzz with ⟨h1, h2⟩ | h1
    · have h3 : decide (z ≤ 0) = true := decide_eq_true h1
      go_enter Tryz.func8, Tryz.ntmps8
      go_wp2_with (first
        | (go_at_call 22; refine (HAL.out _ HV.out).mono ?_; rintro e w0 ⟨rfl, b0⟩; have B0 := Lib.hid b0; clear b0)
        | (go_at_call 34; refine (HF.out _ _).mono ?_; rintro e u0 ⟨rfl, b⟩; have D0 := Lib.hid (bt (bt B0.out ((Below.refl _ w0).alloc (Nat.le_refl _) _)) b); clear b)
        | (go_at_call 15; (with_reducible refine (C1.out _ (HV.out.below D0.out)).mono ?_); rintro e u1 ⟨rfl, b⟩; have D1 := Lib.hid (bt D0.out b); clear b)
        | (go_at_call 15; (with_reducible refine (C2.out _ (HV.out.below D1.out)).mono ?_); rintro e u2 ⟨rfl, b⟩; have D2 := Lib.hid (bt D1.out b); clear b)
        | (go_at_call 15; (with_reducible refine (C3.out _ (HV.out.below D2.out)).mono ?_); rintro e u3 ⟨rfl, b⟩; have D3 := Lib.hid (bt D2.out b); clear b)
        | (go_at_call 15; (with_reducible refine (C4.out _ (HV.out.below D3.out)).mono ?_); rintro e u4 ⟨rfl, b⟩; have D4 := Lib.hid (bt D3.out b); clear b)
        | (go_at_call 35; (with_reducible refine (O1.out _ (HV.out.below D4.out)).mono ?_); rintro e u5 ⟨rfl, b⟩; have D5 := Lib.hid (bt D4.out b); clear b)
        | (go_at_call 35; (with_reducible refine (O2.out _ (HV.out.below D5.out)).mono ?_); rintro e u6 ⟨rfl, b⟩; have D6 := Lib.hid (bt D5.out b); clear b)
        | (go_at_call 15; (with_reducible refine (C5.out _ (HV.out.below D6.out)).mono ?_); rintro e u7 ⟨rfl, b⟩; have D7 := Lib.hid (bt D6.out b); clear b)
        | (go_at_call 15; (with_reducible refine (C6.out _ (HV.out.below D7.out)).mono ?_); rintro e u8 ⟨rfl, b⟩; have D8 := Lib.hid (bt D7.out b); clear b)
        | (go_at_call 35; (with_reducible refine (O3.out _ (HV.out.below D8.out)).mono ?_); rintro e u9 ⟨rfl, b⟩; have D9 := Lib.hid (bt D8.out b); clear b)
        | (go_at_call 35; (with_reducible refine (O4.out _ (HV.out.below D9.out)).mono ?_); rintro e u10 ⟨rfl, b⟩; have D10 := Lib.hid (bt D9.out b); clear b)
        | (go_at_call 15; (with_reducible refine (C7.out _ (HV.out.below D10.out)).mono ?_); rintro e u11 ⟨rfl, b⟩; have D11 := Lib.hid (bt D10.out b); clear b))
      go_ret
      exact ⟨rfl, D11.out⟩
    · have h3 : decide (z ≤ 0) = false := decide_eq_false (by omega)
      go_enter Tryz.func8, Tryz.ntmps8
      go_wp2_with (first
        | (go_at_call 22; refine (HAL.out _ HV.out).mono ?_; rintro e w0 ⟨rfl, b0⟩; have B0 := Lib.hid b0; clear b0)
        | (go_at_call 34; refine (HF.out _ _).mono ?_; rintro e u0 ⟨rfl, b⟩; have D0 := Lib.hid (bt (bt B0.out ((Below.refl _ w0).alloc (Nat.le_refl _) _)) b); clear b)
        | (go_at_call 15; (with_reducible refine (C1.out _ (HV.out.below D0.out)).mono ?_); rintro e u1 ⟨rfl, b⟩; have D1 := Lib.hid (bt D0.out b); clear b)
        | (go_at_call 15; (with_reducible refine (C2.out _ (HV.out.below D1.out)).mono ?_); rintro e u2 ⟨rfl, b⟩; have D2 := Lib.hid (bt D1.out b); clear b)
        | (go_at_call 15; (with_reducible refine (C3.out _ (HV.out.below D2.out)).mono ?_); rintro e u3 ⟨rfl, b⟩; have D3 := Lib.hid (bt D2.out b); clear b)
        | (go_at_call 15; (with_reducible refine (C4.out _ (HV.out.below D3.out)).mono ?_); rintro e u4 ⟨rfl, b⟩; have D4 := Lib.hid (bt D3.out b); clear b)
        | (go_at_call 35; (with_reducible refine (O1.out _ (HV.out.below D4.out)).mono ?_); rintro e u5 ⟨rfl, b⟩; have D5 := Lib.hid (bt D4.out b); clear b)
        | (go_at_call 35; (with_reducible refine (O2.out _ (HV.out.below D5.out)).mono ?_); rintro e u6 ⟨rfl, b⟩; have D6 := Lib.hid (bt D5.out b); clear b)
        | (go_at_call 15; (with_reducible refine (C5.out _ (HV.out.below D6.out)).mono ?_); rintro e u7 ⟨rfl, b⟩; have D7 := Lib.hid (bt D6.out b); clear b)
        | (go_at_call 15; (with_reducible refine (C6.out _ (HV.out.below D7.out)).mono ?_); rintro e u8 ⟨rfl, b⟩; have D8 := Lib.hid (bt D7.out b); clear b)
        | (go_at_call 35; (with_reducible refine (O3.out _ (HV.out.below D8.out)).mono ?_); rintro e u9 ⟨rfl, b⟩; have D9 := Lib.hid (bt D8.out b); clear b)
        | (go_at_call 35; (with_reducible refine (O4.out _ (HV.out.below D9.out)).mono ?_); rintro e u10 ⟨rfl, b⟩; have D10 := Lib.hid (bt D9.out b); clear b)
        | (go_at_call 15; (with_reducible refine (C7.out _ (HV.out.below D10.out)).mono ?_); rintro e u11 ⟨rfl, b⟩; have D11 := Lib.hid (bt D10.out b); clear b))
      go_ret
      exact ⟨rfl, D11.out⟩
  · have C6 := Lib.hid (F6 1 hg)
    have C7 := Lib.hid (F7 1 hg 1 rfl)
    clear F6 F7 hg ha hb hc r_a r_b r_c r_1 r_2 r_3 r_4 r_z
    clear a b c
    rcases hzz with ⟨h1, h2⟩ | h1
    · have h3 : decide (z ≤ 0) = true := decide_eq_true h1
      go_enter Tryz.func8, Tryz.ntmps8
      go_wp2_with (first
        | (go_at_call 22; refine (HAL.out _ HV.out).mono ?_; rintro e w0 ⟨rfl, b0⟩; have B0 := Lib.hid b0; clear b0)
        | (go_at_call 34; refine (HF.out _ _).mono ?_; rintro e u0 ⟨rfl, b⟩; have D0 := Lib.hid (bt (bt B0.out ((Below.refl _ w0).alloc (Nat.le_refl _) _)) b); clear b)
        | (go_at_call 15; (with_reducible refine (C1.out _ (HV.out.below D0.out)).mono ?_); rintro e u1 ⟨rfl, b⟩; have D1 := Lib.hid (bt D0.out b); clear b)
        | (go_at_call 15; (with_reducible refine (C2.out _ (HV.out.below D1.out)).mono ?_); rintro e u2 ⟨rfl, b⟩; have D2 := Lib.hid (bt D1.out b); clear b)
        | (go_at_call 15; (with_reducible refine (C3.out _ (HV.out.below D2.out)).mono ?_); rintro e u3 ⟨rfl, b⟩; have D3 := Lib.hid (bt D2.out b); clear b)
        | (go_at_call 15; (with_reducible refine (C4.out _ (HV.out.below D3.out)).mono ?_); rintro e u4 ⟨rfl, b⟩; have D4 := Lib.hid (bt D3.out b); clear b)
        | (go_at_call 35; (with_reducible refine (O1.out _ (HV.out.below D4.out)).mono ?_); rintro e u5 ⟨rfl, b⟩; have D5 := Lib.hid (bt D4.out b); clear b)
        | (go_at_call 35; (with_reducible refine (O2.out _ (HV.out.below D5.out)).mono ?_); rintro e u6 ⟨rfl, b⟩; have D6 := Lib.hid (bt D5.out b); clear b)
        | (go_at_call 15; (with_reducible refine (C5.out _ (HV.out.below D6.out)).mono ?_); rintro e u7 ⟨rfl, b⟩; have D7 := Lib.hid (bt D6.out b); clear b)
        | (go_at_call 15; (with_reducible refine (C6.out _ (HV.out.below D7.out)).mono ?_); rintro e u8 ⟨rfl, b⟩; have D8 := Lib.hid (bt D7.out b); clear b)
        | (go_at_call 35; (with_reducible refine (O3.out _ (HV.out.below D8.out)).mono ?_); rintro e u9 ⟨rfl, b⟩; have D9 := Lib.hid (bt D8.out b); clear b)
        | (go_at_call 35; (with_reducible refine (O4.out _ (HV.out.below D9.out)).mono ?_); rintro e u10 ⟨rfl, b⟩; have D10 := Lib.hid (bt D9.out b); clear b)
        | (go_at_call 15; (with_reducible refine (C7.out _ (HV.out.below D10.out)).mono ?_); rintro e u11 ⟨rfl, b⟩; have D11 := Lib.hid (bt D10.out b); clear b))
      go_ret
      exact ⟨rfl, D11.out⟩
    · have h3 : decide (z ≤ 0) = false := decide_eq_false (by omega)
      go_enter Tryz.func8, Tryz.ntmps8
      go_wp2_with (first
        | (go_at_call 22; refine (HAL.out _ HV.out).mono ?_; rintro e w0 ⟨rfl, b0⟩; have B0 := Lib.hid b0; clear b0)
        | (go_at_call 34; refine (HF.out _ _).mono ?_; rintro e u0 ⟨rfl, b⟩; have D0 := Lib.hid (bt (bt B0.out ((Below.refl _ w0).alloc (Nat.le_refl _) _)) b); clear b)
        | (go_at_call 15; (with_reducible refine (C1.out _ (HV.out.below D0.out)).mono ?_); rintro e u1 ⟨rfl, b⟩; have D1 := Lib.hid (bt D0.out b); clear b)
        | (go_at_call 15; (with_reducible refine (C2.out _ (HV.out.below D1.out)).mono ?_); rintro e u2 ⟨rfl, b⟩; have D2 := Lib.hid (bt D1.out b); clear b)
        | (go_at_call 15; (with_reducible refine (C3.out _ (HV.out.below D2.out)).mono ?_); rintro e u3 ⟨rfl, b⟩; have D3 := Lib.hid (bt D2.out b); clear b)
        | (go_at_call 15; (with_reducible refine (C4.out _ (HV.out.below D3.out)).mono ?_); rintro e u4 ⟨rfl, b⟩; have D4 := Lib.hid (bt D3.out b); clear b)
        | (go_at_call 35; (with_reducible refine (O1.out _ (HV.out.below D4.out)).mono ?_); rintro e u5 ⟨rfl, b⟩; have D5 := Lib.hid (bt D4.out b); clear b)
        | (go_at_call 35; (with_reducible refine (O2.out _ (HV.out.below D5.out)).mono ?_); rintro e u6 ⟨rfl, b⟩; have D6 := Lib.hid (bt D5.out b); clear b)
        | (go_at_call 15; (with_reducible refine (C5.out _ (HV.out.below D6.out)).mono ?_); rintro e u7 ⟨rfl, b⟩; have D7 := Lib.hid (bt D6.out b); clear b)
        | (go_at_call 15; (with_reducible refine (C6.out _ (HV.out.below D7.out)).mono ?_); rintro e u8 ⟨rfl, b⟩; have D8 := Lib.hid (bt D7.out b); clear b)
        | (go_at_call 35; (with_reducible refine (O3.out _ (HV.out.below D8.out)).mono ?_); rintro e u9 ⟨rfl, b⟩; have D9 := Lib.hid (bt D8.out b); clear b)
        | (go_at_call 35; (with_reducible refine (O4.out _ (HV.out.below D9.out)).mono ?_); rintro e u10 ⟨rfl, b⟩; have D10 := Lib.hid (bt D9.out b); clear b)
        | (go_at_call 15; (with_reducible refine (C7.out _ (HV.out.below D10.out)).mono ?_); rintro e u11 ⟨rfl, b⟩; have D11 := Lib.hid (bt D10.out b); clear b))
      go_ret
      exact ⟨rfl, D11.out⟩
set_option maxRecDepth 100000 in
set_option maxHeartbeats 12800000 in
theorem rordered_law (sa sb sc : ByteArray) (w : World) (hv : VarR w) :
    Calls Tryz.prog 8 #[.string sa, .string sb, .string sc] w fun e w' => e = .returned (.bool true) ∧ Below w.heap.size w w' := by
  by_cases hf : fitR 100 [sa, sb, sc] = true
  · obtain ⟨⟨i1, j1⟩, ⟨i2, j2⟩, ⟨i3, j3⟩⟩ := rfit_three hf
    obtain ⟨a, ra, ha⟩ := qd_of j1 i1 (by omega)
    obtain ⟨b, rb, hb⟩ := qd_of j2 i2 (by omega)
    obtain ⟨c, rc, hc⟩ := qd_of j3 i3 (by omega)
    rcases cmpQ_three a b with h | h | h
    · exact rordered_lt a b c sa sb sc ra rb rc ha hb hc hf h w hv
    · exact rordered_eq a b c sa sb sc ra rb rc ha hb hc hf h w hv
    · exact rordered_gt a b c sa sb sc ra rb rc ha hb hc hf h w hv
  · have HAL := Lib.hid ralive_any
    have HV := Lib.hid hv
    have HF := Lib.hid (rfits_three 100 (by omega) sa sb sc false (by simpa using hf))
    clear hf hv
    go_enter Tryz.func8, Tryz.ntmps8
    go_wp2_with (first
      | (go_at_call 22; refine (HAL.out _ HV.out).mono ?_; rintro e w0 ⟨rfl, b0⟩; have B0 := Lib.hid b0; clear b0)
      | (go_at_call 34; refine (HF.out _ _).mono ?_; rintro e u0 ⟨rfl, b⟩; have D0 := Lib.hid (bt (bt B0.out ((Below.refl _ w0).alloc (Nat.le_refl _) _)) b); clear b))
    go_ret
    exact ⟨rfl, D0.out⟩
end Go.Proofs.YtefhnbmhilhjfaaGreatDoor

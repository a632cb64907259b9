/- The walk of the law RationalField. -/
import Derived.Test.YtefhnbmhilhjfaaGreatDoorRatAg
namespace Go.Proofs.YtefhnbmhilhjfaaGreatDoor
open Go Go.RowKit

theorem rdivself {b : Rat} (h : b ≠ 0) : b / b = 1 := by rw [Rat.div_def]; exact Rat.mul_inv_cancel b h
set_option maxRecDepth 100000 in
set_option maxHeartbeats 6400000 in
theorem field_zero (a b c : Rat) (sa sb sc : ByteArray) (r_a : rq a = sa) (r_b : rq b = sb) (r_c : rq c = sc) (ha : QD 100 a) (hb : QD 100 b) (hc : QD 100 c) (hf : fitR 100 [sa, sb, sc] = true) (h0 : b = 0) (w : World) (hv : VarR w) :
    Calls Tryz.prog 7 #[.string sa, .string sb, .string sc] w fun e w' => e = .returned (.bool true) ∧ Below w.heap.size w w' := by
    have HAL := Lib.hid ralive_any
    have HV := Lib.hid hv
    have HF := Lib.hid (rfits_three 100 (by omega) sa sb sc true hf)
    obtain ⟨ss, r_s⟩ : ∃ r, rq (a + b) = r := ⟨_, rfl⟩
    obtain ⟨sp, r_p⟩ : ∃ r, rq (a * b) = r := ⟨_, rfl⟩
    obtain ⟨st, r_t⟩ : ∃ r, rq (a + b + c) = r := ⟨_, rfl⟩
    obtain ⟨sq, r_q⟩ : ∃ r, rq (a * b * c) = r := ⟨_, rfl⟩
    obtain ⟨sbc, r_bc⟩ : ∃ r, rq (b + c) = r := ⟨_, rfl⟩
    obtain ⟨sl, r_l⟩ : ∃ r, rq (a * (b + c)) = r := ⟨_, rfl⟩
    obtain ⟨sbm, r_bm⟩ : ∃ r, rq (b * c) = r := ⟨_, rfl⟩
    obtain ⟨sac, r_ac⟩ : ∃ r, rq (a * c) = r := ⟨_, rfl⟩
    have r_z := rq_zero
    have r_o := rq_one
    have C1 := Lib.hid (o_radd ha hb (by omega) (rfl) _ _ _ r_a r_b r_s)
    have C2 := Lib.hid (o_rmul ha hb (by omega) (rfl) _ _ _ r_a r_b r_p)
    have C3 := Lib.hid (o_radd hb ha (by omega) (Rat.add_comm b a) _ _ _ r_b r_a r_s)
    have C4 := Lib.hid (o_rmul hb ha (by omega) (Rat.mul_comm b a) _ _ _ r_b r_a r_p)
    have C5 := Lib.hid (o_rsub (ha.add hb) hb (by omega) (Rat.add_sub_cancel) _ _ _ r_s r_b r_a)
    have C6 := Lib.hid (o_radd ha qd_zero (by omega) (Rat.add_zero a) _ _ _ r_a r_z r_a)
    have C7 := Lib.hid (o_rmul ha qd_one (by omega) (Rat.mul_one a) _ _ _ r_a r_o r_a)
    have C8 := Lib.hid (o_rsub ha ha (by omega) (Rat.sub_self) _ _ _ r_a r_a r_z)
    have C9 := Lib.hid (o_radd (ha.add hb) hc (by omega) (rfl) _ _ _ r_s r_c r_t)
    have C10 := Lib.hid (o_rmul (ha.mul hb) hc (by omega) (rfl) _ _ _ r_p r_c r_q)
    have C11 := Lib.hid (o_radd hb hc (by omega) (rfl) _ _ _ r_b r_c r_bc)
    have C12 := Lib.hid (o_rmul ha (hb.add hc) (by omega) (rfl) _ _ _ r_a r_bc r_l)
    have C13 := Lib.hid (o_radd hb hc (by omega) (rfl) _ _ _ r_b r_c r_bc)
    have C14 := Lib.hid (o_radd ha (hb.add hc) (by omega) ((Rat.add_assoc a b c).symm) _ _ _ r_a r_bc r_t)
    have C15 := Lib.hid (o_rmul hb hc (by omega) (rfl) _ _ _ r_b r_c r_bm)
    have C16 := Lib.hid (o_rmul ha (hb.mul hc) (by omega) ((Rat.mul_assoc a b c).symm) _ _ _ r_a r_bm r_q)
    have C17 := Lib.hid (o_rmul ha hc (by omega) (rfl) _ _ _ r_a r_c r_ac)
    have C18 := Lib.hid (o_radd (ha.mul hb) (ha.mul hc) (by omega) ((Rat.mul_add a b c).symm) _ _ _ r_p r_ac r_l)
    have n_s := rq_ne _ _ r_s
    have n_p := rq_ne _ _ r_p
    have n_t := rq_ne _ _ r_t
    have n_q := rq_ne _ _ r_q
    have n_l := rq_ne _ _ r_l
    have bz : (sb.toList == [48]) = true := by rw [rq_is_zero b sb r_b]; exact decide_eq_true h0
    have CZ := Lib.hid (rdiv_zero ha hb (by omega) (by omega) h0 sa sb r_a r_b)
    clear hv hf ha hb hc r_a r_b r_c r_s r_p r_t r_q r_bc r_l r_bm r_ac r_z r_o h0
    clear a b c
    go_enter Tryz.func7, Tryz.ntmps7
    go_wp2_with (first
      | (go_at_call 22; refine (HAL.out _ HV.out).mono ?_; rintro e w0 ⟨rfl, b0⟩; have B0 := Lib.hid b0; clear b0)
      | (go_at_call 34; refine (HF.out _ _).mono ?_; rintro e u0 ⟨rfl, b⟩; have D0 := Lib.hid (bt (bt B0.out ((Below.refl _ w0).alloc (Nat.le_refl _) _)) b); clear b)
      | (go_at_call 35; (with_reducible refine (C1.out _ (HV.out.below D0.out)).mono ?_); rintro e u1 ⟨rfl, b⟩; have D1 := Lib.hid (bt D0.out b); clear b)
      | (go_at_call 35; (with_reducible refine (C2.out _ (HV.out.below D1.out)).mono ?_); rintro e u2 ⟨rfl, b⟩; have D2 := Lib.hid (bt D1.out b); clear b)
      | (go_at_call 35; (with_reducible refine (C3.out _ (HV.out.below D2.out)).mono ?_); rintro e u3 ⟨rfl, b⟩; have D3 := Lib.hid (bt D2.out b); clear b)
      | (go_at_call 35; (with_reducible refine (C4.out _ (HV.out.below D3.out)).mono ?_); rintro e u4 ⟨rfl, b⟩; have D4 := Lib.hid (bt D3.out b); clear b)
      | (go_at_call 35; (with_reducible refine (C5.out _ (HV.out.below D4.out)).mono ?_); rintro e u5 ⟨rfl, b⟩; have D5 := Lib.hid (bt D4.out b); clear b)
      | (go_at_call 35; (with_reducible refine (C6.out _ (HV.out.below D5.out)).mono ?_); rintro e u6 ⟨rfl, b⟩; have D6 := Lib.hid (bt D5.out b); clear b)
      | (go_at_call 35; (with_reducible refine (C7.out _ (HV.out.below D6.out)).mono ?_); rintro e u7 ⟨rfl, b⟩; have D7 := Lib.hid (bt D6.out b); clear b)
      | (go_at_call 35; (with_reducible refine (C8.out _ (HV.out.below D7.out)).mono ?_); rintro e u8 ⟨rfl, b⟩; have D8 := Lib.hid (bt D7.out b); clear b)
      | (go_at_call 35; (with_reducible refine (C9.out _ (HV.out.below D8.out)).mono ?_); rintro e u9 ⟨rfl, b⟩; have D9 := Lib.hid (bt D8.out b); clear b)
      | (go_at_call 35; (with_reducible refine (C10.out _ (HV.out.below D9.out)).mono ?_); rintro e u10 ⟨rfl, b⟩; have D10 := Lib.hid (bt D9.out b); clear b)
      | (go_at_call 35; (with_reducible refine (C11.out _ (HV.out.below D10.out)).mono ?_); rintro e u11 ⟨rfl, b⟩; have D11 := Lib.hid (bt D10.out b); clear b)
      | (go_at_call 35; (with_reducible refine (C12.out _ (HV.out.below D11.out)).mono ?_); rintro e u12 ⟨rfl, b⟩; have D12 := Lib.hid (bt D11.out b); clear b)
      | (go_at_call 35; (with_reducible refine (C13.out _ (HV.out.below D12.out)).mono ?_); rintro e u13 ⟨rfl, b⟩; have D13 := Lib.hid (bt D12.out b); clear b)
      | (go_at_call 35; (with_reducible refine (C14.out _ (HV.out.below D13.out)).mono ?_); rintro e u14 ⟨rfl, b⟩; have D14 := Lib.hid (bt D13.out b); clear b)
      | (go_at_call 35; (with_reducible refine (C15.out _ (HV.out.below D14.out)).mono ?_); rintro e u15 ⟨rfl, b⟩; have D15 := Lib.hid (bt D14.out b); clear b)
      | (go_at_call 35; (with_reducible refine (C16.out _ (HV.out.below D15.out)).mono ?_); rintro e u16 ⟨rfl, b⟩; have D16 := Lib.hid (bt D15.out b); clear b)
      | (go_at_call 35; (with_reducible refine (C17.out _ (HV.out.below D16.out)).mono ?_); rintro e u17 ⟨rfl, b⟩; have D17 := Lib.hid (bt D16.out b); clear b)
      | (go_at_call 35; (with_reducible refine (C18.out _ (HV.out.below D17.out)).mono ?_); rintro e u18 ⟨rfl, b⟩; have D18 := Lib.hid (bt D17.out b); clear b)
      | (go_at_call 16; refine (CZ.out _ (HV.out.below D18.out)).mono ?_; rintro e uz ⟨rfl, b⟩; have DZ := Lib.hid (bt D18.out b); clear b))
    go_ret
    exact ⟨rfl, DZ.out⟩
set_option maxRecDepth 100000 in
set_option maxHeartbeats 6400000 in
theorem field_div (a b c : Rat) (sa sb sc : ByteArray) (r_a : rq a = sa) (r_b : rq b = sb) (r_c : rq c = sc) (ha : QD 100 a) (hb : QD 100 b) (hc : QD 100 c) (hf : fitR 100 [sa, sb, sc] = true) (nb : b ≠ 0) (w : World) (hv : VarR w) :
    Calls Tryz.prog 7 #[.string sa, .string sb, .string sc] w fun e w' => e = .returned (.bool true) ∧ Below w.heap.size w w' := by
    have HAL := Lib.hid ralive_any
    have HV := Lib.hid hv
    have HF := Lib.hid (rfits_three 100 (by omega) sa sb sc true hf)
    have nn : b.num ≠ 0 := fun e => nb (Rat.num_eq_zero.1 e)
    obtain ⟨ss, r_s⟩ : ∃ r, rq (a + b) = r := ⟨_, rfl⟩
    obtain ⟨sp, r_p⟩ : ∃ r, rq (a * b) = r := ⟨_, rfl⟩
    obtain ⟨st, r_t⟩ : ∃ r, rq (a + b + c) = r := ⟨_, rfl⟩
    obtain ⟨sq, r_q⟩ : ∃ r, rq (a * b * c) = r := ⟨_, rfl⟩
    obtain ⟨sbc, r_bc⟩ : ∃ r, rq (b + c) = r := ⟨_, rfl⟩
    obtain ⟨sl, r_l⟩ : ∃ r, rq (a * (b + c)) = r := ⟨_, rfl⟩
    obtain ⟨sbm, r_bm⟩ : ∃ r, rq (b * c) = r := ⟨_, rfl⟩
    obtain ⟨sac, r_ac⟩ : ∃ r, rq (a * c) = r := ⟨_, rfl⟩
    obtain ⟨sab, r_ab⟩ : ∃ r, rq (a / b) = r := ⟨_, rfl⟩
    have r_z := rq_zero
    have r_o := rq_one
    have C1 := Lib.hid (o_radd ha hb (by omega) (rfl) _ _ _ r_a r_b r_s)
    have C2 := Lib.hid (o_rmul ha hb (by omega) (rfl) _ _ _ r_a r_b r_p)
    have C3 := Lib.hid (o_radd hb ha (by omega) (Rat.add_comm b a) _ _ _ r_b r_a r_s)
    have C4 := Lib.hid (o_rmul hb ha (by omega) (Rat.mul_comm b a) _ _ _ r_b r_a r_p)
    have C5 := Lib.hid (o_rsub (ha.add hb) hb (by omega) (Rat.add_sub_cancel) _ _ _ r_s r_b r_a)
    have C6 := Lib.hid (o_radd ha qd_zero (by omega) (Rat.add_zero a) _ _ _ r_a r_z r_a)
    have C7 := Lib.hid (o_rmul ha qd_one (by omega) (Rat.mul_one a) _ _ _ r_a r_o r_a)
    have C8 := Lib.hid (o_rsub ha ha (by omega) (Rat.sub_self) _ _ _ r_a r_a r_z)
    have C9 := Lib.hid (o_radd (ha.add hb) hc (by omega) (rfl) _ _ _ r_s r_c r_t)
    have C10 := Lib.hid (o_rmul (ha.mul hb) hc (by omega) (rfl) _ _ _ r_p r_c r_q)
    have C11 := Lib.hid (o_radd hb hc (by omega) (rfl) _ _ _ r_b r_c r_bc)
    have C12 := Lib.hid (o_rmul ha (hb.add hc) (by omega) (rfl) _ _ _ r_a r_bc r_l)
    have C13 := Lib.hid (o_radd hb hc (by omega) (rfl) _ _ _ r_b r_c r_bc)
    have C14 := Lib.hid (o_radd ha (hb.add hc) (by omega) ((Rat.add_assoc a b c).symm) _ _ _ r_a r_bc r_t)
    have C15 := Lib.hid (o_rmul hb hc (by omega) (rfl) _ _ _ r_b r_c r_bm)
    have C16 := Lib.hid (o_rmul ha (hb.mul hc) (by omega) ((Rat.mul_assoc a b c).symm) _ _ _ r_a r_bm r_q)
    have C17 := Lib.hid (o_rmul ha hc (by omega) (rfl) _ _ _ r_a r_c r_ac)
    have C18 := Lib.hid (o_radd (ha.mul hb) (ha.mul hc) (by omega) ((Rat.mul_add a b c).symm) _ _ _ r_p r_ac r_l)
    have C19 := Lib.hid (o_rdiv (ha.mul hb) hb nn (by omega) (Rat.mul_div_cancel nb) _ _ _ r_p r_b r_a)
    have C20 := Lib.hid (o_rdiv ha hb nn (by omega) (rfl) _ _ _ r_a r_b r_ab)
    have C21 := Lib.hid (o_rmul (ha.div hb nn) hb (by omega) (Rat.div_mul_cancel nb) _ _ _ r_ab r_b r_a)
    have C22 := Lib.hid (o_rdiv hb hb nn (by omega) (rdivself nb) _ _ _ r_b r_b r_o)
    have n_s := rq_ne _ _ r_s
    have n_p := rq_ne _ _ r_p
    have n_t := rq_ne _ _ r_t
    have n_q := rq_ne _ _ r_q
    have n_l := rq_ne _ _ r_l
    have bz : (sb.toList == [48]) = false := by rw [rq_is_zero b sb r_b]; exact decide_eq_false nb
    clear hv hf ha hb hc r_a r_b r_c r_s r_p r_t r_q r_bc r_l r_bm r_ac r_ab r_z r_o nb nn
    clear a b c
    go_enter Tryz.func7, Tryz.ntmps7
    go_wp2_with (first
      | (go_at_call 22; refine (HAL.out _ HV.out).mono ?_; rintro e w0 ⟨rfl, b0⟩; have B0 := Lib.hid b0; clear b0)
      | (go_at_call 34; refine (HF.out _ _).mono ?_; rintro e u0 ⟨rfl, b⟩; have D0 := Lib.hid (bt (bt B0.out ((Below.refl _ w0).alloc (Nat.le_refl _) _)) b); clear b)
      | (go_at_call 35; (with_reducible refine (C1.out _ (HV.out.below D0.out)).mono ?_); rintro e u1 ⟨rfl, b⟩; have D1 := Lib.hid (bt D0.out b); clear b)
      | (go_at_call 35; (with_reducible refine (C2.out _ (HV.out.below D1.out)).mono ?_); rintro e u2 ⟨rfl, b⟩; have D2 := Lib.hid (bt D1.out b); clear b)
      | (go_at_call 35; (with_reducible refine (C3.out _ (HV.out.below D2.out)).mono ?_); rintro e u3 ⟨rfl, b⟩; have D3 := Lib.hid (bt D2.out b); clear b)
      | (go_at_call 35; (with_reducible refine (C4.out _ (HV.out.below D3.out)).mono ?_); rintro e u4 ⟨rfl, b⟩; have D4 := Lib.hid (bt D3.out b); clear b)
      | (go_at_call 35; (with_reducible refine (C5.out _ (HV.out.below D4.out)).mono ?_); rintro e u5 ⟨rfl, b⟩; have D5 := Lib.hid (bt D4.out b); clear b)
      | (go_at_call 35; (with_reducible refine (C6.out _ (HV.out.below D5.out)).mono ?_); rintro e u6 ⟨rfl, b⟩; have D6 := Lib.hid (bt D5.out b); clear b)
      | (go_at_call 35; (with_reducible refine (C7.out _ (HV.out.below D6.out)).mono ?_); rintro e u7 ⟨rfl, b⟩; have D7 := Lib.hid (bt D6.out b); clear b)
      | (go_at_call 35; (with_reducible refine (C8.out _ (HV.out.below D7.out)).mono ?_); rintro e u8 ⟨rfl, b⟩; have D8 := Lib.hid (bt D7.out b); clear b)
      | (go_at_call 35; (with_reducible refine (C9.out _ (HV.out.below D8.out)).mono ?_); rintro e u9 ⟨rfl, b⟩; have D9 := Lib.hid (bt D8.out b); clear b)
      | (go_at_call 35; (with_reducible refine (C10.out _ (HV.out.below D9.out)).mono ?_); rintro e u10 ⟨rfl, b⟩; have D10 := Lib.hid (bt D9.out b); clear b)
      | (go_at_call 35; (with_reducible refine (C11.out _ (HV.out.below D10.out)).mono ?_); rintro e u11 ⟨rfl, b⟩; have D11 := Lib.hid (bt D10.out b); clear b)
      | (go_at_call 35; (with_reducible refine (C12.out _ (HV.out.below D11.out)).mono ?_); rintro e u12 ⟨rfl, b⟩; have D12 := Lib.hid (bt D11.out b); clear b)
      | (go_at_call 35; (with_reducible refine (C13.out _ (HV.out.below D12.out)).mono ?_); rintro e u13 ⟨rfl, b⟩; have D13 := Lib.hid (bt D12.out b); clear b)
      | (go_at_call 35; (with_reducible refine (C14.out _ (HV.out.below D13.out)).mono ?_); rintro e u14 ⟨rfl, b⟩; have D14 := Lib.hid (bt D13.out b); clear b)
      | (go_at_call 35; (with_reducible refine (C15.out _ (HV.out.below D14.out)).mono ?_); rintro e u15 ⟨rfl, b⟩; have D15 := Lib.hid (bt D14.out b); clear b)
      | (go_at_call 35; (with_reducible refine (C16.out _ (HV.out.below D15.out)).mono ?_); rintro e u16 ⟨rfl, b⟩; have D16 := Lib.hid (bt D15.out b); clear b)
      | (go_at_call 35; (with_reducible refine (C17.out _ (HV.out.below D16.out)).mono ?_); rintro e u17 ⟨rfl, b⟩; have D17 := Lib.hid (bt D16.out b); clear b)
      | (go_at_call 35; (with_reducible refine (C18.out _ (HV.out.below D17.out)).mono ?_); rintro e u18 ⟨rfl, b⟩; have D18 := Lib.hid (bt D17.out b); clear b)
      | (go_at_call 35; (with_reducible refine (C19.out _ (HV.out.below D18.out)).mono ?_); rintro e u19 ⟨rfl, b⟩; have D19 := Lib.hid (bt D18.out b); clear b)
      | (go_at_call 35; (with_reducible refine (C20.out _ (HV.out.below D19.out)).mono ?_); rintro e u20 ⟨rfl, b⟩; have D20 := Lib.hid (bt D19.out b); clear b)
      | (go_at_call 35; (with_reducible refine (C21.out _ (HV.out.below D20.out)).mono ?_); rintro e u21 ⟨rfl, b⟩; have D21 := Lib.hid (bt D20.out b); clear b)
      | (go_at_call 35; (with_reducible refine (C22.out _ (HV.out.below D21.out)).mono ?_); rintro e u22 ⟨rfl, b⟩; have D22 := Lib.hid (bt D21.out b); clear b))
    go_ret
    exact ⟨rfl, D22.out⟩
set_option maxRecDepth 100000 in
set_option maxHeartbeats 6400000 in
theorem field_law (sa sb sc : ByteArray) (w : World) (hv : VarR w) :
    Calls Tryz.prog 7 #[.string sa, .string sb, .string sc] w fun e w' => e = .returned (.bool true) ∧ Below w.heap.size w w' := by
  by_cases hf : fitR 100 [sa, sb, sc] = true
  · obtain ⟨⟨i1, j1⟩, ⟨i2, j2⟩, ⟨i3, j3⟩⟩ := rfit_three hf
    obtain ⟨a, ra, ha⟩ := qd_of j1 i1 (by omega)
    obtain ⟨b, rb, hb⟩ := qd_of j2 i2 (by omega)
    obtain ⟨c, rc, hc⟩ := qd_of j3 i3 (by omega)
    by_cases h0 : b = 0
    · exact field_zero a b c sa sb sc ra rb rc ha hb hc hf h0 w hv
    · exact field_div a b c sa sb sc ra rb rc ha hb hc hf h0 w hv
  · have HAL := Lib.hid ralive_any
    have HV := Lib.hid hv
    have HF := Lib.hid (rfits_three 100 (by omega) sa sb sc false (by simpa using hf))
    clear hf hv
    go_enter Tryz.func7, Tryz.ntmps7
    go_wp2_with (first
      | (go_at_call 22; refine (HAL.out _ HV.out).mono ?_; rintro e w0 ⟨rfl, b0⟩; have B0 := Lib.hid b0; clear b0)
      | (go_at_call 34; refine (HF.out _ _).mono ?_; rintro e u0 ⟨rfl, b⟩; have D0 := Lib.hid (bt (bt B0.out ((Below.refl _ w0).alloc (Nat.le_refl _) _)) b); clear b))
    go_ret
    exact ⟨rfl, D0.out⟩
end Go.Proofs.YtefhnbmhilhjfaaGreatDoor

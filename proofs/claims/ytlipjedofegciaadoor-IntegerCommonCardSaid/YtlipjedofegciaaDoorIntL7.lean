/- The walk of the law IntegerCommon. -/
import Derived.Test.YtlipjedofegciaaDoorIntA8
namespace Go.Proofs.YtlipjedofegciaaDoor
open Go Go.RowKit

section
variable (sa sb sk : ByteArray) (w : World) (hv : VarT w) (x y k : Int) (ra : rep x = sa) (rb : rep y = sb) (rk : rep k = sk) (h1 : Dg 200 x) (h2 : Dg 200 y) (h3 : Dg 200 k) (hf : fitB 200 [sa, sb, sk] = true)
include hv ra rb rk h1 h2 h3 hf

omit rk in
set_option maxRecDepth 100000 in
set_option maxHeartbeats 1600000 in
theorem common_zero (hg : Nat.gcd x.natAbs y.natAbs = 0) : Calls Tryd.prog 10 #[.string sa, .string sb, .string sk] w fun e w' => e = .returned (.bool true) ∧ Below w.heap.size w w' := by
  have HAL := Lib.hid alive_any
  have HV := Lib.hid hv
  have HF := Lib.hid (fits_three 200 (by omega) sa sb sk true hf)
  have hG := dg_gcd h1 h2
  have La : x.natAbs < lim := h1.lim (by omega)
  have Lb : y.natAbs < lim := h2.lim (by omega)
  have Lk : k.natAbs < lim := h3.lim (by omega)
  have L0 : (0 : Int).natAbs < lim := (Dg.zero 0).lim (by omega)
  have Ln : (0 - x).natAbs < lim := ((Dg.zero 200).sub h1).lim (by omega)
  have LG : ((Nat.gcd x.natAbs y.natAbs : Nat) : Int).natAbs < lim := hG.lim (by omega)
  obtain ⟨sg, rg⟩ : ∃ r, rep ((Nat.gcd x.natAbs y.natAbs : Nat) : Int) = r := ⟨_, rfl⟩
  obtain ⟨sn, rn⟩ : ∃ r, rep (0 - x) = r := ⟨_, rfl⟩
  have C1 := Lib.hid (gcd_rep La Lb rfl _ _ _ ra rb rg)
  have C2 := Lib.hid (opsub_rep L0 La rfl Ln _ _ _ rep_zero ra rn)
  have C3 := Lib.hid (gcd_rep Lb Ln (gcd_flip x y) _ _ _ rb rn rg)
  obtain ⟨hs0, hs1⟩ := rep_pos_byte _ (Int.natCast_nonneg _) sg rg
  have ne := rep_ne _ _ rg
  have hx0 : x = 0 := by have := Nat.eq_zero_of_gcd_eq_zero_left hg; omega
  have hy0 : y = 0 := by have := Nat.eq_zero_of_gcd_eq_zero_right hg; omega
  have ea : (sa.toList == [48]) = true := by rw [← ra, hx0, rep_zero]; decide +kernel
  have eb : (sb.toList == [48]) = true := by rw [← rb, hy0, rep_zero]; decide +kernel
  have eg : (sg.toList == [48]) = true := by rw [← rg, hg]; show ((rep 0).toList == [48]) = true; rw [rep_zero]; decide +kernel
  clear La Lb Lk L0 Ln LG hG rg rn ra rb h1 h2 h3 hf hv hx0 hy0 hg
  go_enter Tryd.func10, Tryd.ntmps10
  go_wp2_with (first
    | (go_at_call 21; refine (HAL.out _ HV.out).mono ?_; rintro e w0 ⟨rfl, b0⟩; have B0 := Lib.hid b0; clear b0)
    | (go_at_call 33; refine (HF.out _ _).mono ?_; rintro e u0 ⟨rfl, b⟩; have D0 := Lib.hid (bt (bt B0.out ((Below.refl _ w0).alloc (Nat.le_refl _) _)) b); clear b)
    | (go_at_call 18; (with_reducible refine (C1.out _ (HV.out.below D0.out)).mono ?_); rintro e u1 ⟨rfl, b⟩; have D1 := Lib.hid (bt D0.out b); clear b)
    | (go_at_call 34; (with_reducible refine (C2.out _ (HV.out.below D1.out)).mono ?_); rintro e u2 ⟨rfl, b⟩; have D2 := Lib.hid (bt D1.out b); clear b)
    | (go_at_call 18; (with_reducible refine (C3.out _ (HV.out.below D2.out)).mono ?_); rintro e u3 ⟨rfl, b⟩; have D3 := Lib.hid (bt D2.out b); clear b))
  go_ret
  exact ⟨rfl, D3.out⟩
set_option maxRecDepth 100000 in
set_option maxHeartbeats 1600000 in
theorem common_neg (hg : 0 < Nat.gcd x.natAbs y.natAbs) (hk : k < 0) : Calls Tryd.prog 10 #[.string sa, .string sb, .string sk] w fun e w' => e = .returned (.bool true) ∧ Below w.heap.size w w' := by
  have HAL := Lib.hid alive_any
  have HV := Lib.hid hv
  have HF := Lib.hid (fits_three 200 (by omega) sa sb sk true hf)
  have hG := dg_gcd h1 h2
  have La : x.natAbs < lim := h1.lim (by omega)
  have Lb : y.natAbs < lim := h2.lim (by omega)
  have Lk : k.natAbs < lim := h3.lim (by omega)
  have L0 : (0 : Int).natAbs < lim := (Dg.zero 0).lim (by omega)
  have Ln : (0 - x).natAbs < lim := ((Dg.zero 200).sub h1).lim (by omega)
  have LG : ((Nat.gcd x.natAbs y.natAbs : Nat) : Int).natAbs < lim := hG.lim (by omega)
  obtain ⟨sg, rg⟩ : ∃ r, rep ((Nat.gcd x.natAbs y.natAbs : Nat) : Int) = r := ⟨_, rfl⟩
  obtain ⟨sn, rn⟩ : ∃ r, rep (0 - x) = r := ⟨_, rfl⟩
  have C1 := Lib.hid (gcd_rep La Lb rfl _ _ _ ra rb rg)
  have C2 := Lib.hid (opsub_rep L0 La rfl Ln _ _ _ rep_zero ra rn)
  have C3 := Lib.hid (gcd_rep Lb Ln (gcd_flip x y) _ _ _ rb rn rg)
  obtain ⟨hs0, hs1⟩ := rep_pos_byte _ (Int.natCast_nonneg _) sg rg
  have ne := rep_ne _ _ rg
  have hg0 : ((Nat.gcd x.natAbs y.natAbs : Nat) : Int) ≠ 0 := by omega
  obtain ⟨q1, rq1⟩ : ∃ r, rep (x / ((Nat.gcd x.natAbs y.natAbs : Nat) : Int)) = r := ⟨_, rfl⟩
  obtain ⟨q2, rq2⟩ : ∃ r, rep (y / ((Nat.gcd x.natAbs y.natAbs : Nat) : Int)) = r := ⟨_, rfl⟩
  obtain ⟨s1, r1⟩ : ∃ r, rep (x * k) = r := ⟨_, rfl⟩
  obtain ⟨s2, r2⟩ : ∃ r, rep (y * k) = r := ⟨_, rfl⟩
  obtain ⟨sx, rx⟩ : ∃ r, rep (((Nat.gcd x.natAbs y.natAbs : Nat) : Int) * (k.natAbs : Int)) = r := ⟨_, rfl⟩
  obtain ⟨su, ru⟩ : ∃ r, rep (k.natAbs : Int) = r := ⟨_, rfl⟩
  have L1 : (x * k).natAbs < lim := (h1.mul h3).lim (by omega)
  have L2 : (y * k).natAbs < lim := (h2.mul h3).lim (by omega)
  have Lu : (k.natAbs : Int).natAbs < lim := h3.abs.lim (by omega)
  have Lx : (((Nat.gcd x.natAbs y.natAbs : Nat) : Int) * (k.natAbs : Int)).natAbs < lim := (hG.mul h3.abs).lim (by omega)
  have C4 := Lib.hid (divmod_rep La LG hg0 rfl (gcd_mod_left x y) _ _ _ _ ra rg rq1 rep_zero)
  have C5 := Lib.hid (divmod_rep Lb LG hg0 rfl (gcd_mod_right x y) _ _ _ _ rb rg rq2 rep_zero)
  have C6 := Lib.hid (opmul_rep La Lk rfl L1 _ _ _ ra rk r1)
  have C7 := Lib.hid (opmul_rep Lb Lk rfl L2 _ _ _ rb rk r2)
  have C8 := Lib.hid (gcd_rep L1 L2 (gcd_scale x y k) _ _ _ r1 r2 rx)
  have C9 := Lib.hid (opmul_rep LG Lu rfl Lx _ _ _ rg ru rx)
  have eg : (sg.toList == [48]) = false := by
    rw [Lib.toList_data, beq_eq_false_iff_ne, ← rg, rep_data]
    intro h
    exact hg0 (itoa_inj (h.trans itoa_zero.symm))
  obtain ⟨⟨ht0, ht1⟩, hex⟩ := rep_neg_byte k hk sk su rk (by rw [← ru]; congr 1; omega)
  clear La Lb Lk L0 Ln LG hG rg rn ra rb rk h1 h2 h3 hf hv hg hg0 rq1 rq2 r1 r2 rx ru L1 L2 Lu Lx hk
  go_enter Tryd.func10, Tryd.ntmps10
  go_wp2_with (first
    | (go_at_call 21; refine (HAL.out _ HV.out).mono ?_; rintro e w0 ⟨rfl, b0⟩; have B0 := Lib.hid b0; clear b0)
    | (go_at_call 33; refine (HF.out _ _).mono ?_; rintro e u0 ⟨rfl, b⟩; have D0 := Lib.hid (bt (bt B0.out ((Below.refl _ w0).alloc (Nat.le_refl _) _)) b); clear b)
    | (go_at_call 18; (with_reducible refine (C1.out _ (HV.out.below D0.out)).mono ?_); rintro e u1 ⟨rfl, b⟩; have D1 := Lib.hid (bt D0.out b); clear b)
    | (go_at_call 34; (with_reducible refine (C2.out _ (HV.out.below D1.out)).mono ?_); rintro e u2 ⟨rfl, b⟩; have D2 := Lib.hid (bt D1.out b); clear b)
    | (go_at_call 18; (with_reducible refine (C3.out _ (HV.out.below D2.out)).mono ?_); rintro e u3 ⟨rfl, b⟩; have D3 := Lib.hid (bt D2.out b); clear b)
    | (go_at_call 17; (with_reducible refine (C4.out _ (HV.out.below D3.out)).mono ?_); rintro e u4 ⟨rfl, b⟩; have D4 := Lib.hid (bt D3.out b); clear b)
    | (go_at_call 17; (with_reducible refine (C5.out _ (HV.out.below D4.out)).mono ?_); rintro e u5 ⟨rfl, b⟩; have D5 := Lib.hid (bt D4.out b); clear b)
    | (go_at_call 34; (with_reducible refine (C6.out _ (HV.out.below D5.out)).mono ?_); rintro e u6 ⟨rfl, b⟩; have D6 := Lib.hid (bt D5.out b); clear b)
    | (go_at_call 34; (with_reducible refine (C7.out _ (HV.out.below D6.out)).mono ?_); rintro e u7 ⟨rfl, b⟩; have D7 := Lib.hid (bt D6.out b); clear b)
    | (go_at_call 18; (with_reducible refine (C8.out _ (HV.out.below D7.out)).mono ?_); rintro e u8 ⟨rfl, b⟩; have D8 := Lib.hid (bt D7.out b); clear b)
    | (go_at_call 34; (with_reducible refine (C9.out _ (HV.out.below D8.out)).mono ?_); rintro e u9 ⟨rfl, b⟩; have D9 := Lib.hid (bt D8.out b); clear b))
  go_ret
  exact ⟨rfl, D9.out⟩
set_option maxRecDepth 100000 in
set_option maxHeartbeats 1600000 in
theorem common_pos (hg : 0 < Nat.gcd x.natAbs y.natAbs) (hk : 0 ≤ k) : Calls Tryd.prog 10 #[.string sa, .string sb, .string sk] w fun e w' => e = .returned (.bool true) ∧ Below w.heap.size w w' := by
  have HAL := Lib.hid alive_any
  have HV := Lib.hid hv
  have HF := Lib.hid (fits_three 200 (by omega) sa sb sk true hf)
  have hG := dg_gcd h1 h2
  have La : x.natAbs < lim := h1.lim (by omega)
  have Lb : y.natAbs < lim := h2.lim (by omega)
  have Lk : k.natAbs < lim := h3.lim (by omega)
  have L0 : (0 : Int).natAbs < lim := (Dg.zero 0).lim (by omega)
  have Ln : (0 - x).natAbs < lim := ((Dg.zero 200).sub h1).lim (by omega)
  have LG : ((Nat.gcd x.natAbs y.natAbs : Nat) : Int).natAbs < lim := hG.lim (by omega)
  obtain ⟨sg, rg⟩ : ∃ r, rep ((Nat.gcd x.natAbs y.natAbs : Nat) : Int) = r := ⟨_, rfl⟩
  obtain ⟨sn, rn⟩ : ∃ r, rep (0 - x) = r := ⟨_, rfl⟩
  have C1 := Lib.hid (gcd_rep La Lb rfl _ _ _ ra rb rg)
  have C2 := Lib.hid (opsub_rep L0 La rfl Ln _ _ _ rep_zero ra rn)
  have C3 := Lib.hid (gcd_rep Lb Ln (gcd_flip x y) _ _ _ rb rn rg)
  obtain ⟨hs0, hs1⟩ := rep_pos_byte _ (Int.natCast_nonneg _) sg rg
  have ne := rep_ne _ _ rg
  have hg0 : ((Nat.gcd x.natAbs y.natAbs : Nat) : Int) ≠ 0 := by omega
  obtain ⟨q1, rq1⟩ : ∃ r, rep (x / ((Nat.gcd x.natAbs y.natAbs : Nat) : Int)) = r := ⟨_, rfl⟩
  obtain ⟨q2, rq2⟩ : ∃ r, rep (y / ((Nat.gcd x.natAbs y.natAbs : Nat) : Int)) = r := ⟨_, rfl⟩
  obtain ⟨s1, r1⟩ : ∃ r, rep (x * k) = r := ⟨_, rfl⟩
  obtain ⟨s2, r2⟩ : ∃ r, rep (y * k) = r := ⟨_, rfl⟩
  obtain ⟨sx, rx⟩ : ∃ r, rep (((Nat.gcd x.natAbs y.natAbs : Nat) : Int) * (k.natAbs : Int)) = r := ⟨_, rfl⟩
  obtain ⟨su, ru⟩ : ∃ r, rep (k.natAbs : Int) = r := ⟨_, rfl⟩
  have L1 : (x * k).natAbs < lim := (h1.mul h3).lim (by omega)
  have L2 : (y * k).natAbs < lim := (h2.mul h3).lim (by omega)
  have Lu : (k.natAbs : Int).natAbs < lim := h3.abs.lim (by omega)
  have Lx : (((Nat.gcd x.natAbs y.natAbs : Nat) : Int) * (k.natAbs : Int)).natAbs < lim := (hG.mul h3.abs).lim (by omega)
  have C4 := Lib.hid (divmod_rep La LG hg0 rfl (gcd_mod_left x y) _ _ _ _ ra rg rq1 rep_zero)
  have C5 := Lib.hid (divmod_rep Lb LG hg0 rfl (gcd_mod_right x y) _ _ _ _ rb rg rq2 rep_zero)
  have C6 := Lib.hid (opmul_rep La Lk rfl L1 _ _ _ ra rk r1)
  have C7 := Lib.hid (opmul_rep Lb Lk rfl L2 _ _ _ rb rk r2)
  have C8 := Lib.hid (gcd_rep L1 L2 (gcd_scale x y k) _ _ _ r1 r2 rx)
  have C9 := Lib.hid (opmul_rep LG Lu rfl Lx _ _ _ rg ru rx)
  have eg : (sg.toList == [48]) = false := by
    rw [Lib.toList_data, beq_eq_false_iff_ne, ← rg, rep_data]
    intro h
    exact hg0 (itoa_inj (h.trans itoa_zero.symm))
  obtain ⟨ht0, ht1⟩ := rep_pos_byte k hk sk rk
  have es : su = sk := by rw [← ru, ← rk]; congr 1; omega
  rw [es] at C9
  clear La Lb Lk L0 Ln LG hG rg rn ra rb rk h1 h2 h3 hf hv hg hg0 rq1 rq2 r1 r2 rx ru L1 L2 Lu Lx hk es
  go_enter Tryd.func10, Tryd.ntmps10
  go_wp2_with (first
    | (go_at_call 21; refine (HAL.out _ HV.out).mono ?_; rintro e w0 ⟨rfl, b0⟩; have B0 := Lib.hid b0; clear b0)
    | (go_at_call 33; refine (HF.out _ _).mono ?_; rintro e u0 ⟨rfl, b⟩; have D0 := Lib.hid (bt (bt B0.out ((Below.refl _ w0).alloc (Nat.le_refl _) _)) b); clear b)
    | (go_at_call 18; (with_reducible refine (C1.out _ (HV.out.below D0.out)).mono ?_); rintro e u1 ⟨rfl, b⟩; have D1 := Lib.hid (bt D0.out b); clear b)
    | (go_at_call 34; (with_reducible refine (C2.out _ (HV.out.below D1.out)).mono ?_); rintro e u2 ⟨rfl, b⟩; have D2 := Lib.hid (bt D1.out b); clear b)
    | (go_at_call 18; (with_reducible refine (C3.out _ (HV.out.below D2.out)).mono ?_); rintro e u3 ⟨rfl, b⟩; have D3 := Lib.hid (bt D2.out b); clear b)
    | (go_at_call 17; (with_reducible refine (C4.out _ (HV.out.below D3.out)).mono ?_); rintro e u4 ⟨rfl, b⟩; have D4 := Lib.hid (bt D3.out b); clear b)
    | (go_at_call 17; (with_reducible refine (C5.out _ (HV.out.below D4.out)).mono ?_); rintro e u5 ⟨rfl, b⟩; have D5 := Lib.hid (bt D4.out b); clear b)
    | (go_at_call 34; (with_reducible refine (C6.out _ (HV.out.below D5.out)).mono ?_); rintro e u6 ⟨rfl, b⟩; have D6 := Lib.hid (bt D5.out b); clear b)
    | (go_at_call 34; (with_reducible refine (C7.out _ (HV.out.below D6.out)).mono ?_); rintro e u7 ⟨rfl, b⟩; have D7 := Lib.hid (bt D6.out b); clear b)
    | (go_at_call 18; (with_reducible refine (C8.out _ (HV.out.below D7.out)).mono ?_); rintro e u8 ⟨rfl, b⟩; have D8 := Lib.hid (bt D7.out b); clear b)
    | (go_at_call 34; (with_reducible refine (C9.out _ (HV.out.below D8.out)).mono ?_); rintro e u9 ⟨rfl, b⟩; have D9 := Lib.hid (bt D8.out b); clear b))
  go_ret
  exact ⟨rfl, D9.out⟩
end

set_option maxRecDepth 100000 in
set_option maxHeartbeats 800000 in
theorem common_law (sa sb sk : ByteArray) (w : World) (hv : VarT w) : Calls Tryd.prog 10 #[.string sa, .string sb, .string sk] w fun e w' => e = .returned (.bool true) ∧ Below w.heap.size w w' := by
  by_cases hf : fitB 200 [sa, sb, sk] = true
  · obtain ⟨⟨i1, j1⟩, ⟨i2, j2⟩, ⟨i3, j3⟩⟩ := fit_three hf
    have ra := (rep_num sa j1).symm
    have rb := (rep_num sb j2).symm
    have rk := (rep_num sk j3).symm
    rcases Nat.eq_zero_or_pos (Nat.gcd (num sa.data.toList).natAbs (num sb.data.toList).natAbs) with h | h
    · exact common_zero sa sb sk w hv _ _ _ ra rb (dg_of j1 i1) (dg_of j2 i2) (dg_of j3 i3) hf h
    · by_cases hk : num sk.data.toList < 0
      · exact common_neg sa sb sk w hv _ _ _ ra rb rk (dg_of j1 i1) (dg_of j2 i2) (dg_of j3 i3) hf h hk
      · exact common_pos sa sb sk w hv _ _ _ ra rb rk (dg_of j1 i1) (dg_of j2 i2) (dg_of j3 i3) hf h (by omega)
  · have HAL := Lib.hid alive_any
    have HV := Lib.hid hv
    have HF := Lib.hid (fits_three 200 (by omega) sa sb sk false (by simpa using hf))
    clear hf hv
    go_enter Tryd.func10, Tryd.ntmps10
    go_wp2_with (first
      | (go_at_call 21; refine (HAL.out _ HV.out).mono ?_; rintro e w0 ⟨rfl, b0⟩; have B0 := Lib.hid b0; clear b0)
      | (go_at_call 33; refine (HF.out _ _).mono ?_; rintro e u0 ⟨rfl, b⟩; have D0 := Lib.hid (bt (bt B0.out ((Below.refl _ w0).alloc (Nat.le_refl _) _)) b); clear b))
    go_ret
    exact ⟨rfl, D0.out⟩
end Go.Proofs.YtlipjedofegciaaDoor

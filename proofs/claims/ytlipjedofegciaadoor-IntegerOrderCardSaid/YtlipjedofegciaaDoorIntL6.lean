/- The walk of the law IntegerOrder. -/
import Derived.Test.YtlipjedofegciaaDoorIntL5
namespace Go.Proofs.YtlipjedofegciaaDoor
open Go Go.RowKit

theorem cmpZ_lt {x y : Int} (h : x < y) : cmpZ x y = -1 := by unfold cmpZ; rw [if_pos h]
theorem cmpZ_gt {x y : Int} (h : y < x) : cmpZ x y = 1 := by unfold cmpZ; rw [if_neg (by omega), if_pos h]
theorem cmpZ_eq (x : Int) : cmpZ x x = 0 := by unfold cmpZ; rw [if_neg (by omega), if_neg (by omega)]
theorem cmpZ_tri (x y : Int) : (x < y ∧ cmpZ x y = -1) ∨ (x = y ∧ cmpZ x y = 0) ∨ (y < x ∧ cmpZ x y = 1) := by
  rcases Int.lt_trichotomy x y with h | h | h
  · exact .inl ⟨h, cmpZ_lt h⟩
  · subst h; exact .inr (.inl ⟨rfl, cmpZ_eq x⟩)
  · exact .inr (.inr ⟨h, cmpZ_gt h⟩)
theorem cmpZ_bd (x y : Int) : -1 ≤ cmpZ x y ∧ cmpZ x y ≤ 1 := by
  rcases cmpZ_tri x y with ⟨_, h⟩ | ⟨_, h⟩ | ⟨_, h⟩ <;> rw [h] <;> omega
theorem cmpZ_add (x y z : Int) : cmpZ (x + z) (y + z) = cmpZ x y := by unfold cmpZ; simp [Int.add_lt_add_iff_right]
theorem cmpZ_mul (x y z : Int) : cmpZ (x * z) (y * z) = cmpZ x y * cmpZ z 0 := by
  rcases Int.lt_trichotomy z 0 with h | h | h
  · rw [cmpZ_lt h]
    rcases cmpZ_tri x y with ⟨h1, e⟩ | ⟨h1, e⟩ | ⟨h1, e⟩
    · rw [e, cmpZ_gt (Int.mul_lt_mul_of_neg_right h1 h)]; rfl
    · rw [e, h1, cmpZ_eq]; rfl
    · rw [e, cmpZ_lt (Int.mul_lt_mul_of_neg_right h1 h)]; rfl
  · subst h; rw [Int.mul_zero, Int.mul_zero, cmpZ_eq, Int.mul_zero]
  · rw [cmpZ_gt h]
    rcases cmpZ_tri x y with ⟨h1, e⟩ | ⟨h1, e⟩ | ⟨h1, e⟩
    · rw [e, cmpZ_lt (Int.mul_lt_mul_of_pos_right h1 h)]; rfl
    · rw [e, h1, cmpZ_eq]; rfl
    · rw [e, cmpZ_gt (Int.mul_lt_mul_of_pos_right h1 h)]; rfl

section
variable (sa sb sc : ByteArray) (w : World) (hv : VarT w) (x y z : Int) (ra : rep x = sa) (rb : rep y = sb) (rc : rep z = sc) (h1 : Dg 400 x) (h2 : Dg 400 y) (h3 : Dg 400 z) (hf : fitB 400 [sa, sb, sc] = true)
include hv ra rb rc h1 h2 h3 hf

set_option maxRecDepth 100000 in
set_option maxHeartbeats 1600000 in
theorem order_gt (h : y < x) : Calls Tryd.prog 9 #[.string sa, .string sb, .string sc] w fun e w' => e = .returned (.bool true) ∧ Below w.heap.size w w' := by
  have HAL := Lib.hid alive_any
  have HV := Lib.hid hv
  have HF := Lib.hid (fits_three 400 (by omega) sa sb sc true hf)
  have La : x.natAbs < lim := h1.lim (by omega)
  have Lb : y.natAbs < lim := h2.lim (by omega)
  have Lc : z.natAbs < lim := h3.lim (by omega)
  have L0 : (0 : Int).natAbs < lim := (Dg.zero 0).lim (by omega)
  obtain ⟨s1, r1⟩ : ∃ r, rep (x + z) = r := ⟨_, rfl⟩
  obtain ⟨s2, r2⟩ : ∃ r, rep (y + z) = r := ⟨_, rfl⟩
  obtain ⟨s3, r3⟩ : ∃ r, rep (x * z) = r := ⟨_, rfl⟩
  obtain ⟨s4, r4⟩ : ∃ r, rep (y * z) = r := ⟨_, rfl⟩
  have L1 : (x + z).natAbs < lim := (h1.add h3).lim (by omega)
  have L2 : (y + z).natAbs < lim := (h2.add h3).lim (by omega)
  have L3 : (x * z).natAbs < lim := (h1.mul h3).lim (by omega)
  have L4 : (y * z).natAbs < lim := (h2.mul h3).lim (by omega)
  obtain ⟨sg, hsg⟩ : ∃ c, cmpZ z 0 = c := ⟨_, rfl⟩
  have hs0 : -1 ≤ sg ∧ sg ≤ 1 := by rw [← hsg]; exact cmpZ_bd z 0
  obtain ⟨hs1, hs2⟩ := hs0
  have C5 := Lib.hid (opadd_rep La Lc rfl L1 _ _ _ ra rc r1)
  have C6 := Lib.hid (opadd_rep Lb Lc rfl L2 _ _ _ rb rc r2)
  have C8 := Lib.hid (compare_rep Lc L0 hsg _ _ rc rep_zero)
  have C9 := Lib.hid (opmul_rep La Lc rfl L3 _ _ _ ra rc r3)
  have CA := Lib.hid (opmul_rep Lb Lc rfl L4 _ _ _ rb rc r4)
  have hne : (sa.toList == sb.toList) = false := by
    rw [Lib.toList_data, Lib.toList_data, beq_eq_false_iff_ne, ← ra, ← rb]
    intro e
    have := itoa_inj e
    omega
  have C1 := Lib.hid (compare_rep La Lb (cmpZ_gt h) _ _ ra rb)
  have C2 := Lib.hid (compare_rep Lb La (cmpZ_lt h) _ _ rb ra)
  have C3 := Lib.hid (compare_rep Lb Lc rfl _ _ rb rc)
  have C4 := Lib.hid (compare_rep La Lc rfl _ _ ra rc)
  have C7 := Lib.hid (compare_rep L1 L2 ((cmpZ_add x y z).trans (cmpZ_gt h)) _ _ r1 r2)
  have CB := Lib.hid (compare_rep L3 L4 ((cmpZ_mul x y z).trans (by rw [cmpZ_gt h, hsg, Int.one_mul])) _ _ r3 r4)
  generalize cmpZ y z = v3 at C3
  generalize cmpZ x z = v4 at C4
  clear h hsg
  clear La Lb Lc L0 L1 L2 L3 L4 ra rb rc r1 r2 r3 r4 h1 h2 h3 hf hv
  go_enter Tryd.func9, Tryd.ntmps9
  go_wp2_with (first
    | (go_at_call 21; refine (HAL.out _ HV.out).mono ?_; rintro e w0 ⟨rfl, b0⟩; have B0 := Lib.hid b0; clear b0)
    | (go_at_call 33; refine (HF.out _ _).mono ?_; rintro e u0 ⟨rfl, b⟩; have D0 := Lib.hid (bt (bt B0.out ((Below.refl _ w0).alloc (Nat.le_refl _) _)) b); clear b)
    | (go_at_call 20; (with_reducible refine (C1.out _ (HV.out.below D0.out)).mono ?_); rintro e u1 ⟨rfl, b⟩; have D1 := Lib.hid (bt D0.out b); clear b)
    | (go_at_call 20; (with_reducible refine (C2.out _ (HV.out.below D1.out)).mono ?_); rintro e u2 ⟨rfl, b⟩; have D2 := Lib.hid (bt D1.out b); clear b)
    | (go_at_call 20; (with_reducible refine (C3.out _ (HV.out.below D2.out)).mono ?_); rintro e u3 ⟨rfl, b⟩; have D3 := Lib.hid (bt D2.out b); clear b)
    | (go_at_call 20; (with_reducible refine (C4.out _ (HV.out.below D3.out)).mono ?_); rintro e u4 ⟨rfl, b⟩; have D4 := Lib.hid (bt D3.out b); clear b)
    | (go_at_call 34; (with_reducible refine (C5.out _ (HV.out.below D4.out)).mono ?_); rintro e u5 ⟨rfl, b⟩; have D5 := Lib.hid (bt D4.out b); clear b)
    | (go_at_call 34; (with_reducible refine (C6.out _ (HV.out.below D5.out)).mono ?_); rintro e u6 ⟨rfl, b⟩; have D6 := Lib.hid (bt D5.out b); clear b)
    | (go_at_call 20; (with_reducible refine (C7.out _ (HV.out.below D6.out)).mono ?_); rintro e u7 ⟨rfl, b⟩; have D7 := Lib.hid (bt D6.out b); clear b)
    | (go_at_call 20; (with_reducible refine (C8.out _ (HV.out.below D7.out)).mono ?_); rintro e u8 ⟨rfl, b⟩; have D8 := Lib.hid (bt D7.out b); clear b)
    | (go_at_call 34; (with_reducible refine (C9.out _ (HV.out.below D8.out)).mono ?_); rintro e u9 ⟨rfl, b⟩; have D9 := Lib.hid (bt D8.out b); clear b)
    | (go_at_call 34; (with_reducible refine (CA.out _ (HV.out.below D9.out)).mono ?_); rintro e uA ⟨rfl, b⟩; have DA := Lib.hid (bt D9.out b); clear b)
    | (go_at_call 20; (with_reducible refine (CB.out _ (HV.out.below DA.out)).mono ?_); rintro e uB ⟨rfl, b⟩; have DB := Lib.hid (bt DA.out b); clear b))
  go_ret
  exact ⟨rfl, DB.out⟩
set_option maxRecDepth 100000 in
set_option maxHeartbeats 1600000 in
theorem order_eq (h : x = y) : Calls Tryd.prog 9 #[.string sa, .string sb, .string sc] w fun e w' => e = .returned (.bool true) ∧ Below w.heap.size w w' := by
  have HAL := Lib.hid alive_any
  have HV := Lib.hid hv
  have HF := Lib.hid (fits_three 400 (by omega) sa sb sc true hf)
  have La : x.natAbs < lim := h1.lim (by omega)
  have Lb : y.natAbs < lim := h2.lim (by omega)
  have Lc : z.natAbs < lim := h3.lim (by omega)
  have L0 : (0 : Int).natAbs < lim := (Dg.zero 0).lim (by omega)
  obtain ⟨s1, r1⟩ : ∃ r, rep (x + z) = r := ⟨_, rfl⟩
  obtain ⟨s2, r2⟩ : ∃ r, rep (y + z) = r := ⟨_, rfl⟩
  obtain ⟨s3, r3⟩ : ∃ r, rep (x * z) = r := ⟨_, rfl⟩
  obtain ⟨s4, r4⟩ : ∃ r, rep (y * z) = r := ⟨_, rfl⟩
  have L1 : (x + z).natAbs < lim := (h1.add h3).lim (by omega)
  have L2 : (y + z).natAbs < lim := (h2.add h3).lim (by omega)
  have L3 : (x * z).natAbs < lim := (h1.mul h3).lim (by omega)
  have L4 : (y * z).natAbs < lim := (h2.mul h3).lim (by omega)
  obtain ⟨sg, hsg⟩ : ∃ c, cmpZ z 0 = c := ⟨_, rfl⟩
  have hs0 : -1 ≤ sg ∧ sg ≤ 1 := by rw [← hsg]; exact cmpZ_bd z 0
  obtain ⟨hs1, hs2⟩ := hs0
  have C5 := Lib.hid (opadd_rep La Lc rfl L1 _ _ _ ra rc r1)
  have C6 := Lib.hid (opadd_rep Lb Lc rfl L2 _ _ _ rb rc r2)
  have C8 := Lib.hid (compare_rep Lc L0 hsg _ _ rc rep_zero)
  have C9 := Lib.hid (opmul_rep La Lc rfl L3 _ _ _ ra rc r3)
  have CA := Lib.hid (opmul_rep Lb Lc rfl L4 _ _ _ rb rc r4)
  have e1 : cmpZ x y = 0 := by rw [h]; exact cmpZ_eq y
  have e2 : cmpZ y x = 0 := by rw [h]; exact cmpZ_eq y
  have C1 := Lib.hid (compare_rep La Lb e1 _ _ ra rb)
  have C2 := Lib.hid (compare_rep Lb La e2 _ _ rb ra)
  obtain ⟨v3, hv3⟩ : ∃ c, cmpZ x z = c := ⟨_, rfl⟩
  have hv3' : cmpZ y z = v3 := by rw [← h]; exact hv3
  have C3 := Lib.hid (compare_rep Lb Lc hv3' _ _ rb rc)
  have C4 := Lib.hid (compare_rep La Lc hv3 _ _ ra rc)
  have C7 := Lib.hid (compare_rep L1 L2 ((cmpZ_add x y z).trans e1) _ _ r1 r2)
  have CB := Lib.hid (compare_rep L3 L4 (c := 0) ((cmpZ_mul x y z).trans (by rw [e1, Int.zero_mul])) _ _ r3 r4)
  have es : sb = sa := by rw [← rb, ← ra, h]
  clear hv3 hv3' hsg e1 e2 h
  subst es
  by_cases h0 : v3 ≤ 0
  · have h0' : decide (0 < v3) = false := decide_eq_false (by omega)
    clear La Lb Lc L0 L1 L2 L3 L4 ra rb rc r1 r2 r3 r4 h1 h2 h3 hf hv
    go_enter Tryd.func9, Tryd.ntmps9
    go_wp2_with (first
      | (go_at_call 21; refine (HAL.out _ HV.out).mono ?_; rintro e w0 ⟨rfl, b0⟩; have B0 := Lib.hid b0; clear b0)
      | (go_at_call 33; refine (HF.out _ _).mono ?_; rintro e u0 ⟨rfl, b⟩; have D0 := Lib.hid (bt (bt B0.out ((Below.refl _ w0).alloc (Nat.le_refl _) _)) b); clear b)
      | (go_at_call 20; (with_reducible refine (C1.out _ (HV.out.below D0.out)).mono ?_); rintro e u1 ⟨rfl, b⟩; have D1 := Lib.hid (bt D0.out b); clear b)
      | (go_at_call 20; (with_reducible refine (C2.out _ (HV.out.below D1.out)).mono ?_); rintro e u2 ⟨rfl, b⟩; have D2 := Lib.hid (bt D1.out b); clear b)
      | (go_at_call 20; (with_reducible refine (C3.out _ (HV.out.below D2.out)).mono ?_); rintro e u3 ⟨rfl, b⟩; have D3 := Lib.hid (bt D2.out b); clear b)
      | (go_at_call 20; (with_reducible refine (C4.out _ (HV.out.below D3.out)).mono ?_); rintro e u4 ⟨rfl, b⟩; have D4 := Lib.hid (bt D3.out b); clear b)
      | (go_at_call 34; (with_reducible refine (C5.out _ (HV.out.below D4.out)).mono ?_); rintro e u5 ⟨rfl, b⟩; have D5 := Lib.hid (bt D4.out b); clear b)
      | (go_at_call 34; (with_reducible refine (C6.out _ (HV.out.below D5.out)).mono ?_); rintro e u6 ⟨rfl, b⟩; have D6 := Lib.hid (bt D5.out b); clear b)
      | (go_at_call 20; (with_reducible refine (C7.out _ (HV.out.below D6.out)).mono ?_); rintro e u7 ⟨rfl, b⟩; have D7 := Lib.hid (bt D6.out b); clear b)
      | (go_at_call 20; (with_reducible refine (C8.out _ (HV.out.below D7.out)).mono ?_); rintro e u8 ⟨rfl, b⟩; have D8 := Lib.hid (bt D7.out b); clear b)
      | (go_at_call 34; (with_reducible refine (C9.out _ (HV.out.below D8.out)).mono ?_); rintro e u9 ⟨rfl, b⟩; have D9 := Lib.hid (bt D8.out b); clear b)
      | (go_at_call 34; (with_reducible refine (CA.out _ (HV.out.below D9.out)).mono ?_); rintro e uA ⟨rfl, b⟩; have DA := Lib.hid (bt D9.out b); clear b)
      | (go_at_call 20; (with_reducible refine (CB.out _ (HV.out.below DA.out)).mono ?_); rintro e uB ⟨rfl, b⟩; have DB := Lib.hid (bt DA.out b); clear b))
    go_ret
    exact ⟨rfl, DB.out⟩
  · have h0' : decide (v3 ≤ 0) = false := decide_eq_false h0
    clear La Lb Lc L0 L1 L2 L3 L4 ra rb rc r1 r2 r3 r4 h1 h2 h3 hf hv
    go_enter Tryd.func9, Tryd.ntmps9
    go_wp2_with (first
      | (go_at_call 21; refine (HAL.out _ HV.out).mono ?_; rintro e w0 ⟨rfl, b0⟩; have B0 := Lib.hid b0; clear b0)
      | (go_at_call 33; refine (HF.out _ _).mono ?_; rintro e u0 ⟨rfl, b⟩; have D0 := Lib.hid (bt (bt B0.out ((Below.refl _ w0).alloc (Nat.le_refl _) _)) b); clear b)
      | (go_at_call 20; (with_reducible refine (C1.out _ (HV.out.below D0.out)).mono ?_); rintro e u1 ⟨rfl, b⟩; have D1 := Lib.hid (bt D0.out b); clear b)
      | (go_at_call 20; (with_reducible refine (C2.out _ (HV.out.below D1.out)).mono ?_); rintro e u2 ⟨rfl, b⟩; have D2 := Lib.hid (bt D1.out b); clear b)
      | (go_at_call 20; (with_reducible refine (C3.out _ (HV.out.below D2.out)).mono ?_); rintro e u3 ⟨rfl, b⟩; have D3 := Lib.hid (bt D2.out b); clear b)
      | (go_at_call 20; (with_reducible refine (C4.out _ (HV.out.below D3.out)).mono ?_); rintro e u4 ⟨rfl, b⟩; have D4 := Lib.hid (bt D3.out b); clear b)
      | (go_at_call 34; (with_reducible refine (C5.out _ (HV.out.below D4.out)).mono ?_); rintro e u5 ⟨rfl, b⟩; have D5 := Lib.hid (bt D4.out b); clear b)
      | (go_at_call 34; (with_reducible refine (C6.out _ (HV.out.below D5.out)).mono ?_); rintro e u6 ⟨rfl, b⟩; have D6 := Lib.hid (bt D5.out b); clear b)
      | (go_at_call 20; (with_reducible refine (C7.out _ (HV.out.below D6.out)).mono ?_); rintro e u7 ⟨rfl, b⟩; have D7 := Lib.hid (bt D6.out b); clear b)
      | (go_at_call 20; (with_reducible refine (C8.out _ (HV.out.below D7.out)).mono ?_); rintro e u8 ⟨rfl, b⟩; have D8 := Lib.hid (bt D7.out b); clear b)
      | (go_at_call 34; (with_reducible refine (C9.out _ (HV.out.below D8.out)).mono ?_); rintro e u9 ⟨rfl, b⟩; have D9 := Lib.hid (bt D8.out b); clear b)
      | (go_at_call 34; (with_reducible refine (CA.out _ (HV.out.below D9.out)).mono ?_); rintro e uA ⟨rfl, b⟩; have DA := Lib.hid (bt D9.out b); clear b)
      | (go_at_call 20; (with_reducible refine (CB.out _ (HV.out.below DA.out)).mono ?_); rintro e uB ⟨rfl, b⟩; have DB := Lib.hid (bt DA.out b); clear b))
    go_ret
    exact ⟨rfl, DB.out⟩
set_option maxRecDepth 100000 in
set_option maxHeartbeats 1600000 in
theorem order_lt (h : x < y) : Calls Tryd.prog 9 #[.string sa, .string sb, .string sc] w fun e w' => e = .returned (.bool true) ∧ Below w.heap.size w w' := by
  have HAL := Lib.hid alive_any
  have HV := Lib.hid hv
  have HF := Lib.hid (fits_three 400 (by omega) sa sb sc true hf)
  have La : x.natAbs < lim := h1.lim (by omega)
  have Lb : y.natAbs < lim := h2.lim (by omega)
  have Lc : z.natAbs < lim := h3.lim (by omega)
  have L0 : (0 : Int).natAbs < lim := (Dg.zero 0).lim (by omega)
  obtain ⟨s1, r1⟩ : ∃ r, rep (x + z) = r := ⟨_, rfl⟩
  obtain ⟨s2, r2⟩ : ∃ r, rep (y + z) = r := ⟨_, rfl⟩
  obtain ⟨s3, r3⟩ : ∃ r, rep (x * z) = r := ⟨_, rfl⟩
  obtain ⟨s4, r4⟩ : ∃ r, rep (y * z) = r := ⟨_, rfl⟩
  have L1 : (x + z).natAbs < lim := (h1.add h3).lim (by omega)
  have L2 : (y + z).natAbs < lim := (h2.add h3).lim (by omega)
  have L3 : (x * z).natAbs < lim := (h1.mul h3).lim (by omega)
  have L4 : (y * z).natAbs < lim := (h2.mul h3).lim (by omega)
  obtain ⟨sg, hsg⟩ : ∃ c, cmpZ z 0 = c := ⟨_, rfl⟩
  have hs0 : -1 ≤ sg ∧ sg ≤ 1 := by rw [← hsg]; exact cmpZ_bd z 0
  obtain ⟨hs1, hs2⟩ := hs0
  have C5 := Lib.hid (opadd_rep La Lc rfl L1 _ _ _ ra rc r1)
  have C6 := Lib.hid (opadd_rep Lb Lc rfl L2 _ _ _ rb rc r2)
  have C8 := Lib.hid (compare_rep Lc L0 hsg _ _ rc rep_zero)
  have C9 := Lib.hid (opmul_rep La Lc rfl L3 _ _ _ ra rc r3)
  have CA := Lib.hid (opmul_rep Lb Lc rfl L4 _ _ _ rb rc r4)
  have hne : (sa.toList == sb.toList) = false := by
    rw [Lib.toList_data, Lib.toList_data, beq_eq_false_iff_ne, ← ra, ← rb]
    intro e
    have := itoa_inj e
    omega
  have C1 := Lib.hid (compare_rep La Lb (cmpZ_lt h) _ _ ra rb)
  have C2 := Lib.hid (compare_rep Lb La (cmpZ_gt h) _ _ rb ra)
  have C7 := Lib.hid (compare_rep L1 L2 ((cmpZ_add x y z).trans (cmpZ_lt h)) _ _ r1 r2)
  have CB := Lib.hid (compare_rep L3 L4 (c := -sg) ((cmpZ_mul x y z).trans (by rw [cmpZ_lt h, hsg]; omega)) _ _ r3 r4)
  obtain ⟨v3, hv3⟩ : ∃ c, cmpZ y z = c := ⟨_, rfl⟩
  have C3 := Lib.hid (compare_rep Lb Lc hv3 _ _ rb rc)
  by_cases h0 : v3 ≤ 0
  · have hlt : x < z := by
      rcases cmpZ_tri y z with ⟨h5, h6⟩ | ⟨h5, h6⟩ | ⟨h5, h6⟩ <;> omega
    have C4 := Lib.hid (compare_rep La Lc (cmpZ_lt hlt) _ _ ra rc)
    clear h hsg hlt hv3
    clear La Lb Lc L0 L1 L2 L3 L4 ra rb rc r1 r2 r3 r4 h1 h2 h3 hf hv
    go_enter Tryd.func9, Tryd.ntmps9
    go_wp2_with (first
      | (go_at_call 21; refine (HAL.out _ HV.out).mono ?_; rintro e w0 ⟨rfl, b0⟩; have B0 := Lib.hid b0; clear b0)
      | (go_at_call 33; refine (HF.out _ _).mono ?_; rintro e u0 ⟨rfl, b⟩; have D0 := Lib.hid (bt (bt B0.out ((Below.refl _ w0).alloc (Nat.le_refl _) _)) b); clear b)
      | (go_at_call 20; (with_reducible refine (C1.out _ (HV.out.below D0.out)).mono ?_); rintro e u1 ⟨rfl, b⟩; have D1 := Lib.hid (bt D0.out b); clear b)
      | (go_at_call 20; (with_reducible refine (C2.out _ (HV.out.below D1.out)).mono ?_); rintro e u2 ⟨rfl, b⟩; have D2 := Lib.hid (bt D1.out b); clear b)
      | (go_at_call 20; (with_reducible refine (C3.out _ (HV.out.below D2.out)).mono ?_); rintro e u3 ⟨rfl, b⟩; have D3 := Lib.hid (bt D2.out b); clear b)
      | (go_at_call 20; (with_reducible refine (C4.out _ (HV.out.below D3.out)).mono ?_); rintro e u4 ⟨rfl, b⟩; have D4 := Lib.hid (bt D3.out b); clear b)
      | (go_at_call 34; (with_reducible refine (C5.out _ (HV.out.below D4.out)).mono ?_); rintro e u5 ⟨rfl, b⟩; have D5 := Lib.hid (bt D4.out b); clear b)
      | (go_at_call 34; (with_reducible refine (C6.out _ (HV.out.below D5.out)).mono ?_); rintro e u6 ⟨rfl, b⟩; have D6 := Lib.hid (bt D5.out b); clear b)
      | (go_at_call 20; (with_reducible refine (C7.out _ (HV.out.below D6.out)).mono ?_); rintro e u7 ⟨rfl, b⟩; have D7 := Lib.hid (bt D6.out b); clear b)
      | (go_at_call 20; (with_reducible refine (C8.out _ (HV.out.below D7.out)).mono ?_); rintro e u8 ⟨rfl, b⟩; have D8 := Lib.hid (bt D7.out b); clear b)
      | (go_at_call 34; (with_reducible refine (C9.out _ (HV.out.below D8.out)).mono ?_); rintro e u9 ⟨rfl, b⟩; have D9 := Lib.hid (bt D8.out b); clear b)
      | (go_at_call 34; (with_reducible refine (CA.out _ (HV.out.below D9.out)).mono ?_); rintro e uA ⟨rfl, b⟩; have DA := Lib.hid (bt D9.out b); clear b)
      | (go_at_call 20; (with_reducible refine (CB.out _ (HV.out.below DA.out)).mono ?_); rintro e uB ⟨rfl, b⟩; have DB := Lib.hid (bt DA.out b); clear b))
    go_ret
    exact ⟨rfl, DB.out⟩
  · have C4 := Lib.hid (compare_rep La Lc rfl _ _ ra rc)
    generalize cmpZ x z = v4 at C4
    have h0' : decide (v3 ≤ 0) = false := decide_eq_false h0
    clear h hsg hv3
    clear La Lb Lc L0 L1 L2 L3 L4 ra rb rc r1 r2 r3 r4 h1 h2 h3 hf hv
    go_enter Tryd.func9, Tryd.ntmps9
    go_wp2_with (first
      | (go_at_call 21; refine (HAL.out _ HV.out).mono ?_; rintro e w0 ⟨rfl, b0⟩; have B0 := Lib.hid b0; clear b0)
      | (go_at_call 33; refine (HF.out _ _).mono ?_; rintro e u0 ⟨rfl, b⟩; have D0 := Lib.hid (bt (bt B0.out ((Below.refl _ w0).alloc (Nat.le_refl _) _)) b); clear b)
      | (go_at_call 20; (with_reducible refine (C1.out _ (HV.out.below D0.out)).mono ?_); rintro e u1 ⟨rfl, b⟩; have D1 := Lib.hid (bt D0.out b); clear b)
      | (go_at_call 20; (with_reducible refine (C2.out _ (HV.out.below D1.out)).mono ?_); rintro e u2 ⟨rfl, b⟩; have D2 := Lib.hid (bt D1.out b); clear b)
      | (go_at_call 20; (with_reducible refine (C3.out _ (HV.out.below D2.out)).mono ?_); rintro e u3 ⟨rfl, b⟩; have D3 := Lib.hid (bt D2.out b); clear b)
      | (go_at_call 20; (with_reducible refine (C4.out _ (HV.out.below D3.out)).mono ?_); rintro e u4 ⟨rfl, b⟩; have D4 := Lib.hid (bt D3.out b); clear b)
      | (go_at_call 34; (with_reducible refine (C5.out _ (HV.out.below D4.out)).mono ?_); rintro e u5 ⟨rfl, b⟩; have D5 := Lib.hid (bt D4.out b); clear b)
      | (go_at_call 34; (with_reducible refine (C6.out _ (HV.out.below D5.out)).mono ?_); rintro e u6 ⟨rfl, b⟩; have D6 := Lib.hid (bt D5.out b); clear b)
      | (go_at_call 20; (with_reducible refine (C7.out _ (HV.out.below D6.out)).mono ?_); rintro e u7 ⟨rfl, b⟩; have D7 := Lib.hid (bt D6.out b); clear b)
      | (go_at_call 20; (with_reducible refine (C8.out _ (HV.out.below D7.out)).mono ?_); rintro e u8 ⟨rfl, b⟩; have D8 := Lib.hid (bt D7.out b); clear b)
      | (go_at_call 34; (with_reducible refine (C9.out _ (HV.out.below D8.out)).mono ?_); rintro e u9 ⟨rfl, b⟩; have D9 := Lib.hid (bt D8.out b); clear b)
      | (go_at_call 34; (with_reducible refine (CA.out _ (HV.out.below D9.out)).mono ?_); rintro e uA ⟨rfl, b⟩; have DA := Lib.hid (bt D9.out b); clear b)
      | (go_at_call 20; (with_reducible refine (CB.out _ (HV.out.below DA.out)).mono ?_); rintro e uB ⟨rfl, b⟩; have DB := Lib.hid (bt DA.out b); clear b))
    go_ret
    exact ⟨rfl, DB.out⟩
end

set_option maxRecDepth 100000 in
set_option maxHeartbeats 800000 in
theorem order_law (sa sb sc : ByteArray) (w : World) (hv : VarT w) : Calls Tryd.prog 9 #[.string sa, .string sb, .string sc] w fun e w' => e = .returned (.bool true) ∧ Below w.heap.size w w' := by
  by_cases hf : fitB 400 [sa, sb, sc] = true
  · obtain ⟨⟨i1, j1⟩, ⟨i2, j2⟩, ⟨i3, j3⟩⟩ := fit_three hf
    have ra := (rep_num sa j1).symm
    have rb := (rep_num sb j2).symm
    have rc := (rep_num sc j3).symm
    rcases Int.lt_trichotomy (num sa.data.toList) (num sb.data.toList) with h | h | h
    · exact order_lt sa sb sc w hv _ _ _ ra rb rc (dg_of j1 i1) (dg_of j2 i2) (dg_of j3 i3) hf h
    · exact order_eq sa sb sc w hv _ _ _ ra rb rc (dg_of j1 i1) (dg_of j2 i2) (dg_of j3 i3) hf h
    · exact order_gt sa sb sc w hv _ _ _ ra rb rc (dg_of j1 i1) (dg_of j2 i2) (dg_of j3 i3) hf h
  · have HAL := Lib.hid alive_any
    have HV := Lib.hid hv
    have HF := Lib.hid (fits_three 400 (by omega) sa sb sc false (by simpa using hf))
    clear hf hv
    go_enter Tryd.func9, Tryd.ntmps9
    go_wp2_with (first
      | (go_at_call 21; refine (HAL.out _ HV.out).mono ?_; rintro e w0 ⟨rfl, b0⟩; have B0 := Lib.hid b0; clear b0)
      | (go_at_call 33; refine (HF.out _ _).mono ?_; rintro e u0 ⟨rfl, b⟩; have D0 := Lib.hid (bt (bt B0.out ((Below.refl _ w0).alloc (Nat.le_refl _) _)) b); clear b))
    go_ret
    exact ⟨rfl, D0.out⟩
end Go.Proofs.YtlipjedofegciaaDoor

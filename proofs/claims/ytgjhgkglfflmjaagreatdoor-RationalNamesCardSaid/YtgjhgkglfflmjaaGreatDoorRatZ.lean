/- The walks of layer 2: the operations on rationals: sums, differences, products, quotients. -/
import Derived.Test.YtgjhgkglfflmjaaGreatDoorRatY
namespace Go.Proofs.YtgjhgkglfflmjaaGreatDoor
open Go Go.RowKit

set_option maxRecDepth 100000 in
set_option maxHeartbeats 1600000 in
theorem sum_walk (an ad bn bd N D : ByteArray) (c : Int) (w : World) (hv : VarT w)
    (H : ∀ W, VarT W → Calls Tryz.prog 76 #[.agg #[.string an, .string ad], .agg #[.string bn, .string bd], .func (.func 77) #[] #[]] W (PrsR N D c W)) :
    Calls Tryz.prog 41 #[.agg #[.string an, .string ad], .agg #[.string bn, .string bd]] w (PrsR N D c w) := by
  have J := Lib.hid H
  have HV := Lib.hid hv
  have HR := Lib.hid (fun (w3 : World) => @rows3 w (.string an) (.string ad) (.string bn) (.string bd) 60 w3)
  clear H hv
  go_enter Tryz.func41, Tryz.ntmps41
  go_wp2_with (go_at_call 76; obtain ⟨B3, _, _, _, _, _, k5⟩ := HR.out _ rfl; refine (J.out _ (HV.out.below B3)).mono ?_; rintro e w4 ⟨rfl, b⟩; have R := (b.block _ (lt_of_block k5)).trans k5; obtain ⟨m1, m2, m3, m4⟩ := row2 R; have HK := Lib.hid R; have B4 := Lib.hid (bt B3 b); clear R B3 b k5)
  refine bodyPost_ret (v := .tuple #[.agg #[.string N, .string D], .int .i64 c]) (results_cell_tmp rfl _ _ (w.heap.size + 1 + 1) 60 #[.string N, .string D] (0, 0) _ (.int .i64 c) rfl rfl (sc_row _ _ HK.out) Tryz.underlying60 (by kernel_rfl) (by kernel_rfl)) rfl ⟨rfl, bel_sc2 (by omega) B4.out⟩
set_option maxRecDepth 100000 in
set_option maxHeartbeats 1600000 in
theorem difference_walk (an ad bn bd N D : ByteArray) (c : Int) (w : World) (hv : VarT w)
    (H : ∀ W, VarT W → Calls Tryz.prog 76 #[.agg #[.string an, .string ad], .agg #[.string bn, .string bd], .func (.func 93) #[] #[]] W (PrsR N D c W)) :
    Calls Tryz.prog 59 #[.agg #[.string an, .string ad], .agg #[.string bn, .string bd]] w (PrsR N D c w) := by
  have J := Lib.hid H
  have HV := Lib.hid hv
  have HR := Lib.hid (fun (w3 : World) => @rows3 w (.string an) (.string ad) (.string bn) (.string bd) 60 w3)
  clear H hv
  go_enter Tryz.func59, Tryz.ntmps59
  go_wp2_with (go_at_call 76; obtain ⟨B3, _, _, _, _, _, k5⟩ := HR.out _ rfl; refine (J.out _ (HV.out.below B3)).mono ?_; rintro e w4 ⟨rfl, b⟩; have R := (b.block _ (lt_of_block k5)).trans k5; obtain ⟨m1, m2, m3, m4⟩ := row2 R; have HK := Lib.hid R; have B4 := Lib.hid (bt B3 b); clear R B3 b k5)
  refine bodyPost_ret (v := .tuple #[.agg #[.string N, .string D], .int .i64 c]) (results_cell_tmp rfl _ _ (w.heap.size + 1 + 1) 60 #[.string N, .string D] (0, 0) _ (.int .i64 c) rfl rfl (sc_row _ _ HK.out) Tryz.underlying60 (by kernel_rfl) (by kernel_rfl)) rfl ⟨rfl, bel_sc2 (by omega) B4.out⟩
theorem chk_rep {x y : Int} (hx : x.natAbs < lim) (hy : y.natAbs < lim) : bothE (Lib.itoa x) (Lib.itoa y) = 0 := by unfold bothE; rw [if_pos (chk_of_abs hx)]; exact chk_of_abs hy
theorem add_lims {x y : Int} (hx : x.natAbs < lim) (hy : y.natAbs < lim) (w : World) (hv : VarT w) :
    Calls Tryz.prog 77 #[.string (rep x), .string (rep y)] w (StE (if LB (x + y) = true then rep (x + y) else ⟨#[]⟩) (if LB (x + y) = true then 0 else 14) w) := by
  have h := add_any (rep x) (rep y) (rep_size hx) (rep_size hy) w hv
  rw [rep_data, rep_data, opS_ok (chk_rep hx hy), num_itoa, num_itoa] at h
  unfold limS at h
  cases hl : LB (x + y)
  · rw [if_neg (LB_false hl)] at h
    exact h
  · rw [if_pos (LB_true.1 hl)] at h
    exact h
theorem sub_lims {x y : Int} (hx : x.natAbs < lim) (hy : y.natAbs < lim) (w : World) (hv : VarT w) :
    Calls Tryz.prog 93 #[.string (rep x), .string (rep y)] w (StE (if LB (x - y) = true then rep (x - y) else ⟨#[]⟩) (if LB (x - y) = true then 0 else 14) w) := by
  have h := sub_any (rep x) (rep y) (rep_size hx) (rep_size hy) w hv
  rw [rep_data, rep_data, opS_ok (chk_rep hx hy), num_itoa, num_itoa] at h
  unfold limS at h
  cases hl : LB (x - y)
  · rw [if_neg (LB_false hl)] at h
    exact h
  · rw [if_pos (LB_true.1 hl)] at h
    exact h
set_option maxHeartbeats 800000 in
theorem sum_q (a b : Rat) (ha : Sml a) (hb : Sml b) (w : World) (hv : VarT w) :
    Calls Tryz.prog 41 #[.agg #[.string (rep a.num), .string (rep (a.den : Int))], .agg #[.string (rep b.num), .string (rep (b.den : Int))]] w (PrsR (nT (addC a b) (a + b)) (dT (addC a b) (a + b)) (addC a b) w) := by
  have H1 := fun W hW => mul_lims ha.1 hb.2 _ _ rfl rfl _ _ rfl rfl W hW
  have H2 := fun W hW => mul_lims hb.1 ha.2 _ _ rfl rfl _ _ rfl rfl W hW
  have H3 := fun W hW => mul_lims ha.2 hb.2 _ _ rfl rfl _ _ rfl rfl W hW
  refine sum_walk _ _ _ _ _ _ _ w hv fun W hW => ?_
  cases h1 : LB (a.num * (b.den : Int)) <;> cases h2 : LB (b.num * (a.den : Int)) <;> cases h3 : LB ((a.den : Int) * (b.den : Int))
  all_goals
    rw [h1] at H1
    rw [h2] at H2
    rw [h3] at H3
    simp only [if_true, Bool.false_eq_true, if_false] at H1 H2 H3
  case true.true.true =>
    have H4 := fun W hW => add_lims (LB_true.1 h1) (LB_true.1 h2) W hW
    cases h4 : LB (a.num * (b.den : Int) + b.num * (a.den : Int))
    all_goals
      rw [h4] at H4
      simp only [if_true, Bool.false_eq_true, if_false] at H4
    · have e : addC a b = 14 := by unfold addC; rw [h1, h2, h3, h4]; rfl
      rw [e, nT_err (by decide), dT_err (by decide)]
      exact combined_add_jerr _ _ _ _ _ _ _ _ 14 (by decide) W hW H1 H2 H3 H4
    · have e : addC a b = 0 := by unfold addC; rw [h1, h2, h3, h4]; rfl
      rw [e, nT_ok, dT_ok]
      exact combined_add_ok _ _ _ _ _ _ _ _ _ _ W hW H1 H2 H3 H4 (fun W hW => reduced_q (LB_true.1 h4) (LB_true.1 h3) (den_mul_ne a b) (rat_add a b).symm _ _ rfl rfl W hW)
  all_goals
    have e : addC a b = 14 := by unfold addC; rw [h1, h2, h3]; rfl
    rw [e, nT_err (by decide), dT_err (by decide)]
    exact combined_err _ _ _ _ _ _ _ _ _ _ _ _ 14 rfl rfl (by decide) W hW H1 H2 H3
set_option maxHeartbeats 800000 in
theorem difference_q (a b : Rat) (ha : Sml a) (hb : Sml b) (w : World) (hv : VarT w) :
    Calls Tryz.prog 59 #[.agg #[.string (rep a.num), .string (rep (a.den : Int))], .agg #[.string (rep b.num), .string (rep (b.den : Int))]] w (PrsR (nT (subC a b) (a - b)) (dT (subC a b) (a - b)) (subC a b) w) := by
  have H1 := fun W hW => mul_lims ha.1 hb.2 _ _ rfl rfl _ _ rfl rfl W hW
  have H2 := fun W hW => mul_lims hb.1 ha.2 _ _ rfl rfl _ _ rfl rfl W hW
  have H3 := fun W hW => mul_lims ha.2 hb.2 _ _ rfl rfl _ _ rfl rfl W hW
  refine difference_walk _ _ _ _ _ _ _ w hv fun W hW => ?_
  cases h1 : LB (a.num * (b.den : Int)) <;> cases h2 : LB (b.num * (a.den : Int)) <;> cases h3 : LB ((a.den : Int) * (b.den : Int))
  all_goals
    rw [h1] at H1
    rw [h2] at H2
    rw [h3] at H3
    simp only [if_true, Bool.false_eq_true, if_false] at H1 H2 H3
  case true.true.true =>
    have H4 := fun W hW => sub_lims (LB_true.1 h1) (LB_true.1 h2) W hW
    cases h4 : LB (a.num * (b.den : Int) - b.num * (a.den : Int))
    all_goals
      rw [h4] at H4
      simp only [if_true, Bool.false_eq_true, if_false] at H4
    · have e : subC a b = 14 := by unfold subC; rw [h1, h2, h3, h4]; rfl
      rw [e, nT_err (by decide), dT_err (by decide)]
      exact combined_sub_jerr _ _ _ _ _ _ _ _ 14 (by decide) W hW H1 H2 H3 H4
    · have e : subC a b = 0 := by unfold subC; rw [h1, h2, h3, h4]; rfl
      rw [e, nT_ok, dT_ok]
      exact combined_sub_ok _ _ _ _ _ _ _ _ _ _ W hW H1 H2 H3 H4 (fun W hW => reduced_q (LB_true.1 h4) (LB_true.1 h3) (den_mul_ne a b) (rat_sub a b).symm _ _ rfl rfl W hW)
  all_goals
    have e : subC a b = 14 := by unfold subC; rw [h1, h2, h3]; rfl
    rw [e, nT_err (by decide), dT_err (by decide)]
    exact combined_err _ _ _ _ _ _ _ _ _ _ _ _ 14 rfl rfl (by decide) W hW H1 H2 H3
/-- A product of fractions whose parts are any integers. -/
theorem product_z {x y x2 y2 : Int} {q : Rat} (hx : x.natAbs < lim) (hy : y.natAbs < lim) (hx2 : x2.natAbs < lim) (hy2 : y2.natAbs < lim) (h0 : y * y2 ≠ 0) (hq : Rat.divInt (x * x2) (y * y2) = q) (c : Int) (hc : (if LB (x * x2) && LB (y * y2) then 0 else 14) = c) (w : World) (hv : VarT w) :
    Calls Tryz.prog 40 #[.agg #[.string (rep x), .string (rep y)], .agg #[.string (rep x2), .string (rep y2)]] w (PrsR (nT c q) (dT c q) c w) := by
  subst hc
  have H1 := fun W hW => mul_lims hx hx2 _ _ rfl rfl _ _ rfl rfl W hW
  have H2 := fun W hW => mul_lims hy hy2 _ _ rfl rfl _ _ rfl rfl W hW
  cases h1 : LB (x * x2) <;> cases h2 : LB (y * y2)
  all_goals
    rw [h1] at H1
    rw [h2] at H2
    simp only [if_true, Bool.false_eq_true, if_false] at H1 H2
  case true.true =>
    show Calls _ _ _ _ (PrsR (nT 0 q) (dT 0 q) 0 w)
    rw [nT_ok, dT_ok]
    exact product_ok _ _ _ _ _ _ _ _ w hv H1 H2 (fun W hW => reduced_q (LB_true.1 h1) (LB_true.1 h2) h0 hq _ _ rfl rfl W hW)
  all_goals
    show Calls _ _ _ _ (PrsR (nT 14 q) (dT 14 q) 14 w)
    rw [nT_err (by decide), dT_err (by decide)]
    exact product_err _ _ _ _ _ _ _ _ 14 rfl (by decide) w hv H1 H2
theorem product_q (a b : Rat) (ha : Sml a) (hb : Sml b) (w : World) (hv : VarT w) :
    Calls Tryz.prog 40 #[.agg #[.string (rep a.num), .string (rep (a.den : Int))], .agg #[.string (rep b.num), .string (rep (b.den : Int))]] w (PrsR (nT (mulC a b) (a * b)) (dT (mulC a b) (a * b)) (mulC a b) w) :=
  product_z ha.1 ha.2 hb.1 hb.2 (den_mul_ne a b) (rat_mul a b).symm _ rfl w hv
theorem rep_ng (y : Int) : ngB (rep y).data.toList = decide (y < 0) := by
  rw [rep_data]
  rcases Int.lt_or_le y 0 with h | h
  · obtain ⟨u, hu⟩ := Int.eq_ofNat_of_zero_le (show 0 ≤ -y by omega)
    obtain rfl : y = -(u : Int) := by omega
    rw [itoa_neg u (by omega), decide_eq_true h]; rfl
  · obtain ⟨c, r, e, hc⟩ := itoa_head_pos y h
    rw [e, decide_eq_false (by omega)]
    unfold ngB
    simp [hc]
/-- The inverse as the program writes it. -/
theorem inverse_q (b : Rat) (hb : Sml b) (h0 : b.num ≠ 0) (w : World) :
    Calls Tryz.prog 50 #[.agg #[.string (rep b.num), .string (rep (b.den : Int))]] w (FraR (rep (b⁻¹).num) (rep ((b⁻¹).den : Int)) w) := by
  obtain ⟨e1, e2⟩ := rat_inv b (num_ne h0)
  rw [e1, e2]
  rcases Int.lt_trichotomy b.num 0 with h | h | h
  · rw [Int.sign_eq_neg_one_of_neg h, Int.neg_one_mul]
    have hn := rep_ng b.num
    rw [decide_eq_true h] at hn
    obtain ⟨⟨h1, _⟩, h2⟩ := rep_neg_byte b.num h _ _ rfl rfl
    refine inverse_neg _ _ _ _ hn h1 ?_ (minus_cat _ (by have := b.den_pos; omega) _ rfl) ?_ w
    · have := rep_short hb.2; omega
    · rw [h2]; congr 1; omega
  · exact absurd h h0
  · rw [Int.sign_eq_one_of_pos h, Int.one_mul]
    have hn := rep_ng b.num
    rw [decide_eq_false (by omega)] at hn
    have e : ((b.num.natAbs : Nat) : Int) = b.num := by omega
    rw [e]
    exact inverse_pos _ _ hn w
theorem sml_inv {b : Rat} (hb : Sml b) (h0 : b.num ≠ 0) : Sml b⁻¹ := by
  obtain ⟨e1, e2⟩ := rat_inv b (num_ne h0)
  constructor
  · rw [e1, Int.natAbs_mul, Int.natAbs_sign_of_ne_zero h0, Nat.one_mul]; exact hb.2
  · rw [e2, Int.natAbs_natCast]; exact hb.1
theorem divC_inv (a b : Rat) (h0 : b.num ≠ 0) : (if LB (a.num * (b⁻¹).num) && LB ((a.den : Int) * ((b⁻¹).den : Int)) then 0 else 14) = divC a b := by
  obtain ⟨e1, e2⟩ := rat_inv b (num_ne h0)
  unfold divC
  rw [if_neg h0, e1, e2]
  have k1 : LB (a.num * (b.num.sign * b.den)) = LB (a.num * b.den) := by
    unfold LB
    rw [Int.natAbs_mul, Int.natAbs_mul, Int.natAbs_sign_of_ne_zero h0, Nat.one_mul, ← Int.natAbs_mul]
  have k2 : LB ((a.den : Int) * (b.num.natAbs : Int)) = LB ((a.den : Int) * b.num) := by
    unfold LB
    rw [Int.natAbs_mul, Int.natAbs_mul]; simp
  rw [k1, k2]
theorem quotient_q (a b : Rat) (ha : Sml a) (hb : Sml b) (w : World) (hv : VarT w) :
    Calls Tryz.prog 45 #[.agg #[.string (rep a.num), .string (rep (a.den : Int))], .agg #[.string (rep b.num), .string (rep (b.den : Int))]] w (PrsR (nT (divC a b) (a / b)) (dT (divC a b) (a / b)) (divC a b) w) := by
  have hz : ((rep b.num).toList == [48]) = decide (b.num = 0) := by
    rw [Lib.toList_data, rep_data, Bool.eq_iff_iff, beq_iff_eq, decide_eq_true_iff, ← itoa_zero]
    exact ⟨fun h => itoa_inj h, fun h => by rw [h]⟩
  by_cases h0 : b.num = 0
  · have e : divC a b = 16 := by unfold divC; rw [if_pos h0]
    rw [e, nT_err (by decide), dT_err (by decide)]
    exact quotient_zero _ _ _ _ (by rw [hz]; exact decide_eq_true h0) w
  · have hi := sml_inv hb h0
    exact quotient_walk _ _ _ _ _ _ _ _ _ (by rw [hz]; exact decide_eq_false h0) w hv (fun W => inverse_q b hb h0 W)
      (fun W hW => product_z ha.1 ha.2 hi.1 hi.2 (den_mul_ne a b⁻¹) (by rw [Rat.div_def, rat_mul]) _ (divC_inv a b h0) W hW)
end Go.Proofs.YtgjhgkglfflmjaaGreatDoor

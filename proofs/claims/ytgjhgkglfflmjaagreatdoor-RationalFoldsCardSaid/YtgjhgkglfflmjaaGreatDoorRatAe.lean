/- Layer 2: rounding: what it answers. -/
import Derived.Test.YtgjhgkglfflmjaaGreatDoorRatAd
namespace Go.Proofs.YtgjhgkglfflmjaaGreatDoor
open Go Go.RowKit

/-- The last byte of an integer's text tells whether it is odd. -/
theorem last_list (z : Int) : ∃ (p : List UInt8) (c : UInt8), Lib.itoa z = p ++ [c] ∧ 48 ≤ c.toNat ∧ c.toNat ≤ 57 ∧ (((c.toNat : Int) - 48) % 2 == 1) = decide (z % 2 = 1) := by
  have h12 : ¬ chk (Lib.itoa z) = 12 := by rw [chk_itoa]; split <;> decide
  have hn := num_itoa z
  rcases can_cases _ h12 with h | ⟨h1, h2⟩
  · rw [h] at hn
    have hz : z = 0 := by rw [← hn]; decide +kernel
    exact ⟨[], 48, h, by decide, by decide, by rw [hz]; rfl⟩
  · have hb : bod (Lib.itoa z) ≠ [] := by intro e; rw [e] at h1; cases h1
    obtain ⟨p, c, hp⟩ : ∃ p c, bod (Lib.itoa z) = p ++ [c] := ⟨_, _, (List.dropLast_concat_getLast hb).symm⟩
    have hc : dgB c = true := by rw [hp] at h2; exact List.all_eq_true.1 h2 c (by simp)
    obtain ⟨c1, c2⟩ := (dgB_iff c).1 hc
    have hd : ∃ k : Nat, vl 10 (dgs (bod (Lib.itoa z))) = (c.toNat - 48) + 10 * k := by
      rw [hp]
      refine ⟨vl 10 (dgs p), ?_⟩
      unfold dgs
      rw [List.reverse_append, List.map_append]
      rfl
    obtain ⟨k, hk⟩ := hd
    have hpar : (((c.toNat : Int) - 48) % 2 == 1) = decide (z % 2 = 1) := by
      rw [Bool.eq_iff_iff, beq_iff_eq, decide_eq_true_iff]
      unfold num at hn
      split at hn <;> omega
    cases hg : ngB (Lib.itoa z)
    · rw [bod_pos _ hg] at hp
      exact ⟨p, c, hp, by omega, by omega, hpar⟩
    · have e := neg_cons _ hg
      rw [hp] at e
      exact ⟨45 :: p, c, by rw [e]; rfl, by omega, by omega, hpar⟩
theorem odd_q (z : Int) (hz : z.natAbs < lim) (w : World) : Calls Tryz.prog 94 #[.string (rep z)] w (BooR (decide (z % 2 = 1)) w) := by
  obtain ⟨p, c, h, h1, h2, h3⟩ := last_list z
  have hs : (rep z).size = p.length + 1 := by rw [Lib.size_eq, rep_data, h]; simp
  have hl := rep_short hz
  refine odd_any (rep z) c p.length hs (by omega) (fun hlt => ?_) _ h1 h2 h3 w
  have hg := getElem_toList (rep z) p.length hlt
  rw [rep_data, h] at hg
  simpa using hg.symm
/-- Is the rational rounded up to the integer above its floor? -/
def rndUp (m : Nat) (q : Rat) : Bool := upB m (decide (q.num < 0)) (decide ((q.num / q.den) % 2 = 1)) (cmpZ (q.num % q.den) (q.den - q.num % q.den))
/-- What Round answers. -/
def rndQ (m : Nat) (q : Rat) : Int := if q.num % q.den = 0 then q.num / q.den else if rndUp m q = true then q.num / q.den + 1 else q.num / q.den
theorem floor_up {n d : Int} (hd : 0 < d) (hr : n % d ≠ 0) : (n / d + 1).natAbs ≤ n.natAbs := by
  have h0 := Int.emod_nonneg n (show d ≠ 0 by omega)
  have h1 := Int.emod_lt_of_pos n hd
  have h2 := Int.mul_ediv_add_emod n d
  have hd2 : 2 ≤ d := by omega
  generalize n / d = f at *
  generalize n % d = r at *
  rcases Int.lt_or_le f 0 with h | h
  · have h3 := Int.mul_le_mul_of_nonpos_right (show 1 ≤ d by omega) (show f + 1 ≤ 0 by omega)
    rw [Int.mul_add] at h3
    omega
  · have : 2 * f ≤ d * f := Int.mul_le_mul_of_nonneg_right hd2 h
    omega
theorem rnd_lims {q : Rat} (h : Sml q) : (q.num / q.den).natAbs < lim ∧ (q.num % q.den).natAbs < lim ∧ ((q.den : Int) - q.num % q.den).natAbs < lim := by
  have hd := q.den_pos
  have h0 := Int.emod_nonneg q.num (den_ne q)
  have h1 := Int.emod_lt_of_pos q.num (show 0 < (q.den : Int) by omega)
  have h2 := h.2
  exact ⟨Nat.lt_of_le_of_lt (Int.natAbs_ediv_le_natAbs _ _) h.1, by omega, by omega⟩
theorem rndQ_abs (m : Nat) {q : Rat} (h : Sml q) : (rndQ m q).natAbs < lim := by
  obtain ⟨h1, _, _⟩ := rnd_lims h
  have hd := q.den_pos
  unfold rndQ
  split
  · exact h1
  · next hr =>
    split
    · exact Nat.lt_of_le_of_lt (floor_up (by omega) hr) h.1
    · exact h1
theorem cmp_three (x y : Int) : cmpZ x y = -1 ∨ cmpZ x y = 0 ∨ cmpZ x y = 1 := by
  rcases cmpZ_tri x y with ⟨_, h⟩ | ⟨_, h⟩ | ⟨_, h⟩
  · exact .inl h
  · exact .inr (.inl h)
  · exact .inr (.inr h)
theorem rep_is_zero (y : Int) : ((rep y).toList == [48]) = decide (y = 0) := by
  rw [Lib.toList_data, rep_data, Bool.eq_iff_iff, beq_iff_eq, decide_eq_true_iff, ← itoa_zero]
  exact ⟨fun h => itoa_inj h, fun h => by rw [h]⟩
theorem sub_rep {x y z : Int} (hx : x.natAbs < lim) (hy : y.natAbs < lim) (hz : x - y = z) (hl : z.natAbs < lim) (w : World) (hv : VarT w) : Calls Tryz.prog 93 #[.string (rep x), .string (rep y)] w (StE (rep z) 0 w) := by
  subst hz
  have h := sub_lims hx hy w hv
  rw [LB_true.2 hl, if_pos rfl, if_pos rfl] at h
  exact h
theorem add_rep {x y z : Int} (hx : x.natAbs < lim) (hy : y.natAbs < lim) (hz : x + y = z) (hl : z.natAbs < lim) (w : World) (hv : VarT w) : Calls Tryz.prog 77 #[.string (rep x), .string (rep y)] w (StE (rep z) 0 w) := by
  subst hz
  have h := add_lims hx hy w hv
  rw [LB_true.2 hl, if_pos rfl, if_pos rfl] at h
  exact h
/-- Round of a text, by any rule. -/
def roC (m : Int) (l : List UInt8) : Int := if 5 ≤ m then 2 else chkR l
def roT (m : Int) (l : List UInt8) : ByteArray := if roC m l = 0 then rep (rndQ m.toNat (qv l)) else ⟨#[]⟩
theorem Round_q0 (q : Rat) (h : Sml q) (w : World) (hv : VarR w) : Calls Tryz.prog 21 #[.string (rq q), .int .u8 0] w (StE (rep (rndQ 0 q)) 0 w) := by
  obtain ⟨l1, l2, l3⟩ := rnd_lims h
  refine Round_0 _ _ _ _ w hv (fun W hW => parse_q q h W hW) (fun W hW => ?_)
  have H1 := fun W hW => divmod_rep h.1 h.2 (den_ne q) rfl rfl _ _ _ _ rfl rfl rfl rfl W hW
  unfold rndQ
  by_cases h0 : q.num % q.den = 0
  · rw [if_pos h0]
    exact round_zero _ _ _ _ _ (by rw [rep_is_zero]; exact decide_eq_true h0) W hW H1
  · rw [if_neg h0]
    have hz : ((rep (q.num % q.den)).toList == [48]) = false := by rw [rep_is_zero]; exact decide_eq_false h0
    have H2 := fun W hW => sub_rep h.2 l2 rfl l3 W hW
    have H3 := fun W hW => compare_rep l2 l3 rfl _ _ rfl rfl W hW
    have H4 := fun W => negative_any' (rep q.num) _ (rep_ng q.num) W
    have H5 := fun W => odd_q _ l1 W
    have H6 := fun W => above_0 (decide (q.num < 0)) (decide ((q.num / q.den) % 2 = 1)) (cmpZ (q.num % q.den) (q.den - q.num % q.den)) W
    have e : upB 0 (decide (q.num < 0)) (decide ((q.num / q.den) % 2 = 1)) (cmpZ (q.num % q.den) (q.den - q.num % q.den)) = rndUp 0 q := rfl
    rw [e] at H6
    have hd := q.den_pos
    cases hu : rndUp 0 q
    · rw [hu] at H6
      rw [if_neg (by decide)]
      exact round_stay_0 _ _ _ _ _ _ _ _ hz W hW H1 H2 H3 H4 H5 H6
    · rw [hu] at H6
      rw [if_pos rfl]
      have l4 : (q.num / q.den + 1).natAbs < lim := Nat.lt_of_le_of_lt (floor_up (by omega) h0) h.1
      exact round_up_0 _ _ _ _ _ _ _ _ _ hz W hW H1 H2 H3 H4 H5 H6 (fun W hW => by have k := add_rep l1 (Dg.lim dg_one (by omega)) rfl l4 W hW; rw [rep_one] at k; exact k)
theorem Round_q1 (q : Rat) (h : Sml q) (w : World) (hv : VarR w) : Calls Tryz.prog 21 #[.string (rq q), .int .u8 1] w (StE (rep (rndQ 1 q)) 0 w) := by
  obtain ⟨l1, l2, l3⟩ := rnd_lims h
  refine Round_1 _ _ _ _ w hv (fun W hW => parse_q q h W hW) (fun W hW => ?_)
  have H1 := fun W hW => divmod_rep h.1 h.2 (den_ne q) rfl rfl _ _ _ _ rfl rfl rfl rfl W hW
  unfold rndQ
  by_cases h0 : q.num % q.den = 0
  · rw [if_pos h0]
    exact round_zero _ _ _ _ _ (by rw [rep_is_zero]; exact decide_eq_true h0) W hW H1
  · rw [if_neg h0]
    have hz : ((rep (q.num % q.den)).toList == [48]) = false := by rw [rep_is_zero]; exact decide_eq_false h0
    have H2 := fun W hW => sub_rep h.2 l2 rfl l3 W hW
    have H3 := fun W hW => compare_rep l2 l3 rfl _ _ rfl rfl W hW
    have H4 := fun W => negative_any' (rep q.num) _ (rep_ng q.num) W
    have H5 := fun W => odd_q _ l1 W
    have H6 := fun W => above_1 (decide (q.num < 0)) (decide ((q.num / q.den) % 2 = 1)) (cmpZ (q.num % q.den) (q.den - q.num % q.den)) W
    have e : upB 1 (decide (q.num < 0)) (decide ((q.num / q.den) % 2 = 1)) (cmpZ (q.num % q.den) (q.den - q.num % q.den)) = rndUp 1 q := rfl
    rw [e] at H6
    have hd := q.den_pos
    cases hu : rndUp 1 q
    · rw [hu] at H6
      rw [if_neg (by decide)]
      exact round_stay_1 _ _ _ _ _ _ _ _ hz W hW H1 H2 H3 H4 H5 H6
    · rw [hu] at H6
      rw [if_pos rfl]
      have l4 : (q.num / q.den + 1).natAbs < lim := Nat.lt_of_le_of_lt (floor_up (by omega) h0) h.1
      exact round_up_1 _ _ _ _ _ _ _ _ _ hz W hW H1 H2 H3 H4 H5 H6 (fun W hW => by have k := add_rep l1 (Dg.lim dg_one (by omega)) rfl l4 W hW; rw [rep_one] at k; exact k)
theorem Round_q2 (q : Rat) (h : Sml q) (w : World) (hv : VarR w) : Calls Tryz.prog 21 #[.string (rq q), .int .u8 2] w (StE (rep (rndQ 2 q)) 0 w) := by
  obtain ⟨l1, l2, l3⟩ := rnd_lims h
  refine Round_2 _ _ _ _ w hv (fun W hW => parse_q q h W hW) (fun W hW => ?_)
  have H1 := fun W hW => divmod_rep h.1 h.2 (den_ne q) rfl rfl _ _ _ _ rfl rfl rfl rfl W hW
  unfold rndQ
  by_cases h0 : q.num % q.den = 0
  · rw [if_pos h0]
    exact round_zero _ _ _ _ _ (by rw [rep_is_zero]; exact decide_eq_true h0) W hW H1
  · rw [if_neg h0]
    have hz : ((rep (q.num % q.den)).toList == [48]) = false := by rw [rep_is_zero]; exact decide_eq_false h0
    have H2 := fun W hW => sub_rep h.2 l2 rfl l3 W hW
    have H3 := fun W hW => compare_rep l2 l3 rfl _ _ rfl rfl W hW
    have H4 := fun W => negative_any' (rep q.num) _ (rep_ng q.num) W
    have H5 := fun W => odd_q _ l1 W
    have H6 := fun W => above_2 (decide (q.num < 0)) (decide ((q.num / q.den) % 2 = 1)) (cmpZ (q.num % q.den) (q.den - q.num % q.den)) (cmp_three _ _) W
    have e : upB 2 (decide (q.num < 0)) (decide ((q.num / q.den) % 2 = 1)) (cmpZ (q.num % q.den) (q.den - q.num % q.den)) = rndUp 2 q := rfl
    rw [e] at H6
    have hd := q.den_pos
    cases hu : rndUp 2 q
    · rw [hu] at H6
      rw [if_neg (by decide)]
      exact round_stay_2 _ _ _ _ _ _ _ _ hz W hW H1 H2 H3 H4 H5 H6
    · rw [hu] at H6
      rw [if_pos rfl]
      have l4 : (q.num / q.den + 1).natAbs < lim := Nat.lt_of_le_of_lt (floor_up (by omega) h0) h.1
      exact round_up_2 _ _ _ _ _ _ _ _ _ hz W hW H1 H2 H3 H4 H5 H6 (fun W hW => by have k := add_rep l1 (Dg.lim dg_one (by omega)) rfl l4 W hW; rw [rep_one] at k; exact k)
theorem Round_q3 (q : Rat) (h : Sml q) (w : World) (hv : VarR w) : Calls Tryz.prog 21 #[.string (rq q), .int .u8 3] w (StE (rep (rndQ 3 q)) 0 w) := by
  obtain ⟨l1, l2, l3⟩ := rnd_lims h
  refine Round_3 _ _ _ _ w hv (fun W hW => parse_q q h W hW) (fun W hW => ?_)
  have H1 := fun W hW => divmod_rep h.1 h.2 (den_ne q) rfl rfl _ _ _ _ rfl rfl rfl rfl W hW
  unfold rndQ
  by_cases h0 : q.num % q.den = 0
  · rw [if_pos h0]
    exact round_zero _ _ _ _ _ (by rw [rep_is_zero]; exact decide_eq_true h0) W hW H1
  · rw [if_neg h0]
    have hz : ((rep (q.num % q.den)).toList == [48]) = false := by rw [rep_is_zero]; exact decide_eq_false h0
    have H2 := fun W hW => sub_rep h.2 l2 rfl l3 W hW
    have H3 := fun W hW => compare_rep l2 l3 rfl _ _ rfl rfl W hW
    have H4 := fun W => negative_any' (rep q.num) _ (rep_ng q.num) W
    have H5 := fun W => odd_q _ l1 W
    have H6 := fun W => above_3 (decide (q.num < 0)) (decide ((q.num / q.den) % 2 = 1)) (cmpZ (q.num % q.den) (q.den - q.num % q.den)) (cmp_three _ _) W
    have e : upB 3 (decide (q.num < 0)) (decide ((q.num / q.den) % 2 = 1)) (cmpZ (q.num % q.den) (q.den - q.num % q.den)) = rndUp 3 q := rfl
    rw [e] at H6
    have hd := q.den_pos
    cases hu : rndUp 3 q
    · rw [hu] at H6
      rw [if_neg (by decide)]
      exact round_stay_3 _ _ _ _ _ _ _ _ hz W hW H1 H2 H3 H4 H5 H6
    · rw [hu] at H6
      rw [if_pos rfl]
      have l4 : (q.num / q.den + 1).natAbs < lim := Nat.lt_of_le_of_lt (floor_up (by omega) h0) h.1
      exact round_up_3 _ _ _ _ _ _ _ _ _ hz W hW H1 H2 H3 H4 H5 H6 (fun W hW => by have k := add_rep l1 (Dg.lim dg_one (by omega)) rfl l4 W hW; rw [rep_one] at k; exact k)
theorem Round_q4 (q : Rat) (h : Sml q) (w : World) (hv : VarR w) : Calls Tryz.prog 21 #[.string (rq q), .int .u8 4] w (StE (rep (rndQ 4 q)) 0 w) := by
  obtain ⟨l1, l2, l3⟩ := rnd_lims h
  refine Round_4 _ _ _ _ w hv (fun W hW => parse_q q h W hW) (fun W hW => ?_)
  have H1 := fun W hW => divmod_rep h.1 h.2 (den_ne q) rfl rfl _ _ _ _ rfl rfl rfl rfl W hW
  unfold rndQ
  by_cases h0 : q.num % q.den = 0
  · rw [if_pos h0]
    exact round_zero _ _ _ _ _ (by rw [rep_is_zero]; exact decide_eq_true h0) W hW H1
  · rw [if_neg h0]
    have hz : ((rep (q.num % q.den)).toList == [48]) = false := by rw [rep_is_zero]; exact decide_eq_false h0
    have H2 := fun W hW => sub_rep h.2 l2 rfl l3 W hW
    have H3 := fun W hW => compare_rep l2 l3 rfl _ _ rfl rfl W hW
    have H4 := fun W => negative_any' (rep q.num) _ (rep_ng q.num) W
    have H5 := fun W => odd_q _ l1 W
    have H6 := fun W => above_4 (decide (q.num < 0)) (decide ((q.num / q.den) % 2 = 1)) (cmpZ (q.num % q.den) (q.den - q.num % q.den)) W
    have e : upB 4 (decide (q.num < 0)) (decide ((q.num / q.den) % 2 = 1)) (cmpZ (q.num % q.den) (q.den - q.num % q.den)) = rndUp 4 q := rfl
    rw [e] at H6
    have hu : rndUp 4 q = false := rfl
    rw [hu] at H6 ⊢
    rw [if_neg (by decide)]
    exact round_stay_4 _ _ _ _ _ _ _ _ hz W hW H1 H2 H3 H4 H5 H6
theorem Round_any (s : ByteArray) (hs : s.size ≤ 1048576) (m : Int) (h0 : 0 ≤ m) (h255 : m ≤ 255) (w : World) (hv : VarR w) :
    Calls Tryz.prog 21 #[.string s, .int .u8 m] w (StE (roT m s.data.toList) (roC m s.data.toList) w) := by
  unfold roT roC
  by_cases h5 : 5 ≤ m
  · rw [if_pos h5, if_neg (by decide)]
    exact Round_mode s m h5 h255 w
  rw [if_neg h5]
  rcases text_cases s with h1 | ⟨q, rfl, hq⟩
  · rw [if_neg h1]
    exact Round_parse s _ _ m _ h0 (by omega) h1 w hv (fun W hW => parse_e s hs h1 W hW)
  rw [rq_chk hq, if_pos rfl, qv_rq]
  obtain ⟨k, rfl⟩ := Int.eq_ofNat_of_zero_le h0
  have hk : k = 0 ∨ k = 1 ∨ k = 2 ∨ k = 3 ∨ k = 4 := by omega
  rcases hk with rfl | rfl | rfl | rfl | rfl
  · exact Round_q0 q hq w hv
  · exact Round_q1 q hq w hv
  · exact Round_q2 q hq w hv
  · exact Round_q3 q hq w hv
  · exact Round_q4 q hq w hv
end Go.Proofs.YtgjhgkglfflmjaaGreatDoor

/- Layer 5: the reference's walks: what Fraction answers. -/
import Derived.Test.YtpgfadkkfofhcaaGreatDoorDcH
namespace Go.Proofs.YtpgfadkkfofhcaaGreatDoor
open Go Go.RowKit

theorem span_step {y1 m1 d1 n1 y2 m2 d2 n2 : Int} (h1 : IsDate y1 m1 d1 n1) (h2 : IsDate y2 m2 d2 n2) (h : n1 ≤ n2) (z : Int) :
    lpZ y2 n2 (z + 1) - lpZ y1 n1 (z + 1) = lpZ y2 n2 z - lpZ y1 n1 z + (if leapB z then max (min n2 (foy (z + 1)) - max n1 (foy z)) 0 else 0) ∧
    cmZ y2 n2 (z + 1) - cmZ y1 n1 (z + 1) = cmZ y2 n2 z - cmZ y1 n1 z + (if leapB z then 0 else max (min n2 (foy (z + 1)) - max n1 (foy z)) 0) := by
  have e1 := lpZ_step (z := z) h1.in_y
  have e2 := lpZ_step (z := z) h2.in_y
  have e3 := span_year (low := n1) (high := n2) (z := z) h
  rw [e1.1, e1.2, e2.1, e2.2, e3]
  cases leapB z <;> simp <;> omega
theorem span_bd (L C : Int → Int) (n1 n2 : Int) (l0 : L 1900 = 0) (k0 : C 1900 = 0)
    (hS : ∀ z, L (z + 1) = L z + (if leapB z then max (min n2 (foy (z + 1)) - max n1 (foy z)) 0 else 0) ∧ C (z + 1) = C z + (if leapB z then 0 else max (min n2 (foy (z + 1)) - max n1 (foy z)) 0)) :
    ∀ k : Nat, 0 ≤ L (1900 + k) ∧ L (1900 + k) ≤ 366 * k ∧ 0 ≤ C (1900 + k) ∧ C (1900 + k) ≤ 366 * k := by
  intro k
  induction k with
  | zero => simp [l0, k0]
  | succ k ih =>
    have h := hS (1900 + k)
    have hf := foy_len (1900 + k)
    have e : (1900 : Int) + ((k + 1 : Nat) : Int) = 1900 + (k : Int) + 1 := by omega
    rw [e, h.1, h.2]
    cases hl : leapB (1900 + k)
    · rw [hl] at hf; simp only [Bool.false_eq_true, if_false] at hf ⊢; omega
    · rw [hl] at hf; simp only [if_true] at hf ⊢; omega
theorem act_sum (c1 c2 l1 l2 : Int) : Rat.divInt (c2 - c1) 365 + Rat.divInt (l2 - l1) 366 = ((c2 : Rat) / 365 + (l2 : Rat) / 366) - ((c1 : Rat) / 365 + (l1 : Rat) / 366) := by
  have h1 : ((365 : Int) : Rat) = 365 := rfl
  have h2 : ((366 : Int) : Rat) = 366 := rfl
  rw [Rat.divInt_eq_div, Rat.divInt_eq_div, Rat.intCast_sub, Rat.intCast_sub, h1, h2]
  grind
theorem refAdd_divs (a c : Int) (a0 : -999999 ≤ a) (a1 : a ≤ 999999) (c0 : -999999 ≤ c) (c1 : c ≤ 999999) (q : Rat) (hq : Rat.divInt a 365 + Rat.divInt c 366 = q) (w : World) :
    Calls Tryz.prog 27 #[.string (rq (Rat.divInt a 365)), .string (rq (Rat.divInt c 366))] w (StE (rq q) 0 w) := by
  have ha : QD 6 (Rat.divInt a 365) := qd6 (by decide) a0 a1 (by decide) (by decide)
  have hc : QD 6 (Rat.divInt c 366) := qd6 (by decide) c0 c1 (by decide) (by decide)
  have h := refradd_q (ha.sml (by decide)) (hc.sml (by decide)) w
  rw [addC_zero ha hc (by decide), qT_ok, hq] at h
  exact h
theorem reffrac_in (r y1 m1 d1 n1 y2 m2 d2 n2 : Int) (q : Rat) (r0 : 0 ≤ r) (r4 : r ≤ 4) (h1 : IsDate y1 m1 d1 n1) (h2 : IsDate y2 m2 d2 n2) (b1 : n1 ≤ 99999) (b2 : n2 ≤ 99999) (hq : frQ r y1 m1 d1 n1 y2 m2 d2 n2 = q) (w : World) :
    Calls Tryz.prog 13 #[.int .u8 r, .int .i64 n1, .int .i64 n2] w (StE (rq q) 0 w) := by
  have hD := refDays_in r y1 m1 d1 n1 y2 m2 d2 n2 _ r0 r4 h1 h2 b1 b2 rfl w
  by_cases h3 : r = 3
  · subst h3
    unfold frQ at hq
    rw [if_pos rfl, frQ_act] at hq
    have g1 := h1.y1 b1
    have g2 := h2.y1 b2
    obtain ⟨z1, z2⟩ := lpZ_1900 (n := n1) h1.y0
    obtain ⟨z3, z4⟩ := lpZ_1900 (n := n2) h2.y0
    obtain ⟨e1, e2⟩ := lpZ_end (n := n1) (show y1 < 2174 by omega)
    obtain ⟨e3, e4⟩ := lpZ_end (n := n2) (show y2 < 2174 by omega)
    by_cases hlt : n2 < n1
    · have hB := span_bd (fun z => lpZ y1 n1 z - lpZ y2 n2 z) (fun z => cmZ y1 n1 z - cmZ y2 n2 z) n2 n1 (by show _ - _ = _; omega) (by show _ - _ = _; omega) (fun z => span_step h2 h1 (by omega) z)
      have hE := hB 274
      simp only [show (1900 : Int) + ((274 : Nat) : Int) = 2174 from rfl] at hE
      refine reffrac_act_1 n1 n2 _ (fun z => lpZ y1 n1 z - lpZ y2 n2 z) (fun z => cmZ y1 n1 z - cmZ y2 n2 z) _ _ _ h1.n0 b1 h2.n0 b2 hlt (fun z _ _ => span_step h2 h1 (by omega) z) (fun z a b => ?_) (by show _ - _ = _; omega) (by show _ - _ = _; omega) w hD
        (fun W => refratio_q _ 365 (by decide) (by omega) (by omega) (by decide) (by decide) _ rfl W) (fun W => refratio_q _ 366 (by decide) (by omega) (by omega) (by decide) (by decide) _ rfl W)
        (fun W => refAdd_divs _ _ (by omega) (by omega) (by omega) (by omega) _ ?_ W)
      · have := hB (z - 1900).toNat
        rw [show (1900 : Int) + ((z - 1900).toNat : Int) = z by omega] at this
        omega
      · simp only [e1, e2, e3, e4]
        rw [show -(cmD y1 n1 - cmD y2 n2) = cmD y2 n2 - cmD y1 n1 by omega, show -(lpD y1 n1 - lpD y2 n2) = lpD y2 n2 - lpD y1 n1 by omega, act_sum]
        exact hq
    · have hB := span_bd (fun z => lpZ y2 n2 z - lpZ y1 n1 z) (fun z => cmZ y2 n2 z - cmZ y1 n1 z) n1 n2 (by show _ - _ = _; omega) (by show _ - _ = _; omega) (fun z => span_step h1 h2 (by omega) z)
      have hE := hB 274
      simp only [show (1900 : Int) + ((274 : Nat) : Int) = 2174 from rfl] at hE
      refine reffrac_act_0 n1 n2 _ (fun z => lpZ y2 n2 z - lpZ y1 n1 z) (fun z => cmZ y2 n2 z - cmZ y1 n1 z) _ _ _ h1.n0 b1 h2.n0 b2 (by omega) (fun z _ _ => span_step h1 h2 (by omega) z) (fun z a b => ?_) (by show _ - _ = _; omega) (by show _ - _ = _; omega) w hD
        (fun W => refratio_q _ 365 (by decide) (by omega) (by omega) (by decide) (by decide) _ rfl W) (fun W => refratio_q _ 366 (by decide) (by omega) (by omega) (by decide) (by decide) _ rfl W)
        (fun W => refAdd_divs _ _ (by omega) (by omega) (by omega) (by omega) _ ?_ W)
      · have := hB (z - 1900).toNat
        rw [show (1900 : Int) + ((z - 1900).toNat : Int) = z by omega] at this
        omega
      · simp only [e1, e2, e3, e4]
        rw [act_sum]
        exact hq
  · unfold frQ at hq
    rw [if_neg h3] at hq
    have g := dys_bd (r := r) h1 h2 b1 b2
    by_cases h0 : r = 0
    · rw [if_pos h0] at hq
      exact reffrac_div r n1 n2 _ 365 _ (.inl ⟨h0, rfl⟩) w hD (fun W => refratio_q _ 365 (by decide) (by omega) (by omega) (by decide) (by decide) q hq W)
    · rw [if_neg h0] at hq
      exact reffrac_div r n1 n2 _ 360 _ (by omega) w hD (fun W => refratio_q _ 360 (by decide) (by omega) (by omega) (by decide) (by decide) q hq W)
end Go.Proofs.YtpgfadkkfofhcaaGreatDoor

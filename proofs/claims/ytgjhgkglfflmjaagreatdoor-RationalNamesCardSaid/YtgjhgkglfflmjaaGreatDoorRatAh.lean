/- Layer 2: how far rounding goes. No walk. -/
import Derived.Test.YtgjhgkglfflmjaaGreatDoorRatAg
namespace Go.Proofs.YtgjhgkglfflmjaaGreatDoor
open Go Go.RowKit

theorem rq_int (N : Int) : rq (N : Rat) = rep N := by
  apply WideShapes.bytes_inj
  rw [rq_data, rep_data, Rat.num_intCast, Rat.den_intCast]
  unfold txtL
  rw [if_pos (show Lib.itoa ((1 : Nat) : Int) = [49] from itoa_one)]
/-- The change by rounding, times the denominator. -/
def nrP (m : Nat) (q : Rat) : Int := rndQ m q * q.den - q.num
theorem near_parts (m : Nat) (q : Rat) : (((rndQ m q : Int) : Rat) - q).num = nrP m q ∧ ((((rndQ m q : Int) : Rat) - q).den : Int) = q.den := by
  have e : ((rndQ m q : Int) : Rat) - q = Rat.divInt (nrP m q) q.den := by
    rw [rat_sub, Rat.num_intCast, Rat.den_intCast]
    unfold nrP
    rw [Int.natCast_one, Int.mul_one, Int.one_mul]
  have hg : Nat.gcd (nrP m q).natAbs (q.den : Int).natAbs = 1 := by
    rw [Int.natAbs_natCast]
    have h1 : ((Nat.gcd (nrP m q).natAbs q.den : Nat) : Int) ∣ nrP m q := Int.natAbs_dvd_natAbs.1 (by rw [Int.natAbs_natCast]; exact Nat.gcd_dvd_left _ _)
    have h2 : ((Nat.gcd (nrP m q).natAbs q.den : Nat) : Int) ∣ (q.den : Int) := Int.natCast_dvd_natCast.2 (Nat.gcd_dvd_right _ _)
    have h3 : ((Nat.gcd (nrP m q).natAbs q.den : Nat) : Int) ∣ q.num := by
      have h4 : q.num = rndQ m q * q.den - nrP m q := by unfold nrP; omega
      rw [h4]
      exact Int.dvd_sub (Int.dvd_mul_of_dvd_right h2) h1
    have h5 : Nat.gcd (nrP m q).natAbs q.den ∣ Nat.gcd q.num.natAbs q.den := Nat.dvd_gcd (by have := Int.natAbs_dvd_natAbs.2 h3; rwa [Int.natAbs_natCast] at this) (Nat.gcd_dvd_right _ _)
    rw [show Nat.gcd q.num.natAbs q.den = 1 from q.reduced] at h5
    exact Nat.eq_one_of_dvd_one h5
  have hd := q.den_pos
  have hG : qG (nrP m q) q.den = 1 := by unfold qG; rw [if_neg (by omega), hg]; rfl
  rw [e, ← qN_rat (den_ne q), ← qD_rat (den_ne q)]
  unfold qN qD
  rw [hG, Int.ediv_one, Int.ediv_one]
  exact ⟨rfl, rfl⟩
/-- The absolute value. -/
def absQ (q : Rat) : Rat := if q.num < 0 then -q else q
theorem absQ_parts (q : Rat) : (absQ q).num = (q.num.natAbs : Int) ∧ (absQ q).den = q.den := by
  unfold absQ
  split
  · exact ⟨by rw [Rat.neg_num]; omega, rfl⟩
  · exact ⟨by omega, rfl⟩
theorem rq_neg_text (q : Rat) (h : q.num < 0) (s : ByteArray) (hs : rq q = s) : (∃ h0 : 0 < s.size, ((s[0].toNat : Int) == 45) = true) ∧ s.extract 1 s.size = rq (absQ q) := by
  obtain ⟨u, hu⟩ := Int.eq_ofNat_of_zero_le (show 0 ≤ -q.num by omega)
  have hn : q.num = -(u : Int) := by omega
  have e1 : (rq q) = ⟨⟨45 :: txtL (Lib.decDigits u) (Lib.itoa (q.den : Int))⟩⟩ := by
    unfold rq
    rw [hn, itoa_neg u (by omega)]
    unfold txtL
    split <;> rfl
  have e2 : rq (absQ q) = ⟨⟨txtL (Lib.decDigits u) (Lib.itoa (q.den : Int))⟩⟩ := by
    unfold rq
    obtain ⟨a1, a2⟩ := absQ_parts q
    rw [a1, a2, hn]
    rw [show (((-(u : Int)).natAbs : Nat) : Int) = (u : Int) by omega, itoa_pos]
  rw [e1] at hs
  subst hs
  rw [e2]
  exact ⟨⟨Nat.succ_pos _, beq_of 45 45 true rfl (by omega)⟩, extract_tail _ _⟩
theorem rq_pos_text (q : Rat) (h : 0 ≤ q.num) (s : ByteArray) (hs : rq q = s) : ∃ h0 : 0 < s.size, ((s[0].toNat : Int) == 45) = false := by
  obtain ⟨c, r, e, hc⟩ := itoa_head_pos q.num h
  have e1 : ∃ r', rq q = ⟨⟨c :: r'⟩⟩ := by
    unfold rq txtL
    rw [e]
    split
    · exact ⟨_, rfl⟩
    · exact ⟨_, rfl⟩
  obtain ⟨r', e1⟩ := e1
  rw [e1] at hs
  subst hs
  exact ⟨Nat.succ_pos _, beq_of 45 c false (by rw [beq_eq_false_iff_ne]; exact hc) (by omega)⟩
theorem cmpQ_zero (q : Rat) : cmpQ q 0 = cmpZ q.num 0 := by
  rw [← cmpZ_rat]
  show cmpZ (q.num * 1) (0 * (q.den : Int)) = _
  rw [Int.mul_one, Int.zero_mul]
theorem cmpQ_one (q : Rat) : cmpQ q 1 = cmpZ q.num q.den := by
  rw [← cmpZ_rat]
  show cmpZ (q.num * 1) (1 * (q.den : Int)) = _
  rw [Int.mul_one, Int.one_mul]
/-- One half. -/
def hlf : Rat := Rat.divInt 1 2
theorem hlf_text : rq hlf = ⟨#[49, 47, 50]⟩ := by decide +kernel
theorem qd_hlf : QD 1 hlf := by unfold QD Dg; decide +kernel
theorem cmpQ_half (q : Rat) : cmpQ q hlf = cmpZ (2 * q.num) q.den := by
  rw [← cmpZ_rat]
  have h1 : hlf.num = 1 := by decide +kernel
  have h2 : hlf.den = 2 := by decide +kernel
  rw [h1, h2, Int.one_mul]
  congr 1; omega
/-- What the law asks of rounding by rule m: the sign of the change, of the number, and how far it is to one half. -/
theorem near_facts (m : Nat) (q : Rat) (hm : m ≤ 4) (hd1 : q.den ≠ 1) :
    cmpZ ((nrP m q).natAbs : Int) q.den = -1 ∧
    ∃ s g h : Int, cmpZ (nrP m q) 0 = s ∧ cmpZ q.num 0 = g ∧ cmpZ (2 * ((nrP m q).natAbs : Int)) q.den = h ∧
      (m = 0 → (s = -1 ∧ g = 1) ∨ (s = 1 ∧ g = -1)) ∧ (m = 1 → (s = 1 ∧ g = 1) ∨ (s = -1 ∧ g = -1)) ∧ (m = 4 → s = -1) ∧
      (m = 2 → h = -1 ∨ (h = 0 ∧ ((s = 1 ∧ g = 1) ∨ (s = -1 ∧ g = -1)))) ∧ (m = 3 → h = -1 ∨ (h = 0 ∧ rndQ m q % 2 = 0)) ∧ (s = -1 ∨ s = 1) := by
  have hd := q.den_pos
  have h0 := Int.emod_nonneg q.num (den_ne q)
  have h1 := Int.emod_lt_of_pos q.num (show 0 < (q.den : Int) by omega)
  have h2 := Int.mul_ediv_add_emod q.num q.den
  have hr : q.num % q.den ≠ 0 := by
    intro e
    have hdv : (q.den : Int) ∣ q.num := Int.dvd_of_emod_eq_zero e
    have : q.den ∣ q.num.natAbs := by have := Int.natAbs_dvd_natAbs.2 hdv; rwa [Int.natAbs_natCast] at this
    have h6 : q.den ∣ Nat.gcd q.num.natAbs q.den := Nat.dvd_gcd this (Nat.dvd_refl _)
    rw [show Nat.gcd q.num.natAbs q.den = 1 from q.reduced] at h6
    exact hd1 (Nat.eq_one_of_dvd_one h6)
  have hneg : q.num < 0 ↔ q.num / q.den < 0 := ⟨fun h => Int.ediv_neg_of_neg_of_pos h (by omega), fun h => Classical.byContradiction fun g => by have := Int.ediv_nonneg (show 0 ≤ q.num by omega) (show 0 ≤ (q.den : Int) by omega); omega⟩
  have hn0 : q.num ≠ 0 := by intro e; rw [e] at hr; simp at hr
  have hp : nrP m q = if rndUp m q = true then (q.den : Int) - q.num % q.den else -(q.num % q.den) := by
    unfold nrP rndQ
    rw [if_neg hr]
    split
    · rw [Int.add_mul, Int.one_mul, Int.mul_comm (q.num / q.den)]; omega
    · rw [Int.mul_comm (q.num / q.den)]; omega
  have hN : rndQ m q = if rndUp m q = true then q.num / q.den + 1 else q.num / q.den := by unfold rndQ; rw [if_neg hr]
  have hu : rndUp m q = upB m (decide (q.num < 0)) (decide ((q.num / q.den) % 2 = 1)) (cmpZ (q.num % q.den) (q.den - q.num % q.den)) := rfl
  have hpm : (m = 0 ∧ (rndUp m q = true ↔ q.num < 0)) ∨ (m = 1 ∧ (rndUp m q = true ↔ ¬ q.num < 0)) ∨
      (m = 2 ∧ (rndUp m q = true ↔ (q.den - q.num % q.den < q.num % q.den ∨ (q.num % q.den = q.den - q.num % q.den ∧ ¬ q.num < 0)))) ∨
      (m = 3 ∧ (rndUp m q = true ↔ (q.den - q.num % q.den < q.num % q.den ∨ (q.num % q.den = q.den - q.num % q.den ∧ (q.num / q.den) % 2 = 1)))) ∨ (m = 4 ∧ rndUp m q = false) := by
    rw [hu]
    have hc := cmpZ_tri (q.num % q.den) (q.den - q.num % q.den)
    have hmm : m = 0 ∨ m = 1 ∨ m = 2 ∨ m = 3 ∨ m = 4 := by omega
    rcases hmm with rfl | rfl | rfl | rfl | rfl
    · left; exact ⟨rfl, by simp [upB]⟩
    · right; left; exact ⟨rfl, by simp [upB]⟩
    · right; right; left
      refine ⟨rfl, ?_⟩
      rcases hc with ⟨a, e⟩ | ⟨a, e⟩ | ⟨a, e⟩
      · rw [e, show upB 2 (decide (q.num < 0)) (decide ((q.num / q.den) % 2 = 1)) (-1) = false from rfl]
        constructor
        · intro h; cases h
        · intro h; omega
      · rw [e, show upB 2 (decide (q.num < 0)) (decide ((q.num / q.den) % 2 = 1)) 0 = (!decide (q.num < 0)) from rfl]
        simp only [Bool.not_eq_true', decide_eq_false_iff_not]
        omega
      · rw [e, show upB 2 (decide (q.num < 0)) (decide ((q.num / q.den) % 2 = 1)) 1 = true from rfl]
        exact ⟨fun _ => .inl a, fun _ => rfl⟩
    · right; right; right; left
      refine ⟨rfl, ?_⟩
      rcases hc with ⟨a, e⟩ | ⟨a, e⟩ | ⟨a, e⟩
      · rw [e, show upB 3 (decide (q.num < 0)) (decide ((q.num / q.den) % 2 = 1)) (-1) = false from rfl]
        constructor
        · intro h; cases h
        · intro h; omega
      · rw [e, show upB 3 (decide (q.num < 0)) (decide ((q.num / q.den) % 2 = 1)) 0 = (decide ((q.num / q.den) % 2 = 1)) from rfl]
        simp only [decide_eq_true_iff]
        omega
      · rw [e, show upB 3 (decide (q.num < 0)) (decide ((q.num / q.den) % 2 = 1)) 1 = true from rfl]
        exact ⟨fun _ => .inl a, fun _ => rfl⟩
    · right; right; right; right; exact ⟨rfl, rfl⟩
  clear hu hd1
  generalize rndUp m q = u at *
  generalize nrP m q = p at *
  generalize rndQ m q = N at *
  generalize q.num % q.den = r at *
  generalize q.num / q.den = f at *
  generalize q.num = n at *
  generalize (q.den : Int) = d at *
  have t0 := cmpZ_tri p 0
  have t1 := cmpZ_tri n 0
  have t2 := cmpZ_tri (2 * (p.natAbs : Int)) d
  have t3 := cmpZ_tri (p.natAbs : Int) d
  generalize cmpZ p 0 = s at *
  generalize cmpZ n 0 = g at *
  generalize cmpZ (2 * (p.natAbs : Int)) d = h at *
  generalize cmpZ (p.natAbs : Int) d = o at *
  have hdp : 0 < d := by omega
  cases u
  · simp only [Bool.false_eq_true, if_false, false_iff] at *
    subst hp; subst hN
    refine ⟨by omega, s, g, h, rfl, rfl, rfl, ?_, ?_, ?_, ?_, ?_, ?_⟩ <;> omega
  · simp only [if_true, true_iff, Bool.true_eq_false, and_false, or_false] at *
    subst hp; subst hN
    refine ⟨by omega, s, g, h, rfl, rfl, rfl, ?_, ?_, ?_, ?_, ?_, ?_⟩ <;> omega
end Go.Proofs.YtgjhgkglfflmjaaGreatDoor

/- Layer 2: texts of rationals and the rational numbers themselves. No walk. -/
import Derived.Test.YtgjhgkglfflmjaaGreatDoorRatD
namespace Go.Proofs.YtgjhgkglfflmjaaGreatDoor
open Go Go.RowKit

theorem qN_rat {x y : Int} (h : y ≠ 0) : qN x y = (Rat.divInt x y).num := by
  have hg : ((Nat.gcd x.natAbs y.natAbs : Nat) : Int) ∣ x := Int.natAbs_dvd_natAbs.1 (by rw [Int.natAbs_natCast]; exact Nat.gcd_dvd_left _ _)
  have e : Int.gcd y x = Nat.gcd x.natAbs y.natAbs := Nat.gcd_comm _ _
  rw [Rat.num_divInt, e]
  unfold qN qG
  rcases Int.lt_trichotomy y 0 with h1 | h1 | h1
  · rw [if_pos h1, Int.sign_eq_neg_one_of_neg h1, Int.ediv_neg, Int.neg_one_mul, Int.neg_ediv_of_dvd hg]
  · exact absurd h1 h
  · rw [if_neg (by omega), Int.sign_eq_one_of_pos h1, Int.one_mul]
theorem qD_rat {x y : Int} (h : y ≠ 0) : qD x y = ((Rat.divInt x y).den : Int) := by
  have hg : ((Nat.gcd x.natAbs y.natAbs : Nat) : Int) ∣ y := Int.natAbs_dvd_natAbs.1 (by rw [Int.natAbs_natCast]; exact Nat.gcd_dvd_right _ _)
  have e : Int.gcd y x = Nat.gcd x.natAbs y.natAbs := Nat.gcd_comm _ _
  rw [Rat.den_divInt, if_neg h, e]
  unfold qD qG
  rcases Int.lt_trichotomy y 0 with h1 | h1 | h1
  · rw [if_pos h1, Int.natCast_ediv, Int.ediv_neg, ← Int.neg_ediv_of_dvd hg]
    congr 1; omega
  · exact absurd h1 h
  · rw [if_neg (by omega), Int.natCast_ediv]
    congr 1; omega
theorem rat_add (a b : Rat) : a + b = Rat.divInt (a.num * b.den + b.num * a.den) (a.den * b.den) := by
  rw [Rat.add_def', ← Rat.divInt_ofNat]; simp
theorem rat_sub (a b : Rat) : a - b = Rat.divInt (a.num * b.den - b.num * a.den) (a.den * b.den) := by
  rw [Rat.sub_def', ← Rat.divInt_ofNat]; simp
theorem rat_mul (a b : Rat) : a * b = Rat.divInt (a.num * b.num) (a.den * b.den) := by
  rw [Rat.mul_def', ← Rat.divInt_ofNat]; simp
theorem rat_inv (b : Rat) (h : b ≠ 0) : (b⁻¹).num = b.num.sign * b.den ∧ ((b⁻¹).den : Int) = b.num.natAbs := by
  have hn : b.num ≠ 0 := fun e => h (Rat.num_eq_zero.1 e)
  rw [Rat.num_inv, Rat.den_inv, if_neg hn]; exact ⟨rfl, rfl⟩
/-- How two rationals compare. -/
def cmpQ (a b : Rat) : Int := if a < b then -1 else if b < a then 1 else 0
theorem cmpZ_rat (a b : Rat) : cmpZ (a.num * b.den) (b.num * a.den) = cmpQ a b := by
  unfold cmpZ cmpQ
  simp only [Rat.lt_iff]
theorem den_ne (q : Rat) : (q.den : Int) ≠ 0 := by have := q.den_pos; omega

/-- No numeral has a slash. -/
theorem odB_slash (b : List UInt8) (h : odB b = true) : ∀ c ∈ b, c ≠ 47 := by
  intro c hc e
  have := (dgB_iff c).1 (List.all_eq_true.1 h c hc)
  rw [e] at this
  exact absurd this.1 (by decide)
theorem itoa_slash (z : Int) : ∀ c ∈ Lib.itoa z, c ≠ 47 := by
  have h : ¬ chk (Lib.itoa z) = 12 := by rw [chk_itoa]; split <;> decide
  rcases can_cases _ h with h1 | ⟨_, h2⟩
  · rw [h1]; intro c hc; simp at hc; rw [hc]; decide
  · cases hn : ngB (Lib.itoa z)
    · rw [bod_pos _ hn] at h2; exact odB_slash _ h2
    · intro c hc
      rw [neg_cons _ hn] at hc
      rcases List.mem_cons.1 hc with e | e
      · rw [e]; decide
      · exact odB_slash _ h2 c e
theorem spl_mid : ∀ (a b : List UInt8), (∀ c ∈ a, c ≠ 47) → spl (a ++ 47 :: b) = some (a, b)
  | [], b, _ => by simp [spl]
  | c :: r, b, h => by
    have h1 := spl_mid r b fun d hd => h d (by simp [hd])
    show spl (c :: (r ++ 47 :: b)) = _
    unfold spl
    rw [if_neg (h c (by simp)), h1]; rfl
theorem spl_at_back {l a b : List UInt8} (h : spl l = some (a, b)) : l = a ++ 47 :: b := by
  induction l generalizing a b with
  | nil => simp [spl] at h
  | cons c r ih =>
    unfold spl at h
    by_cases hc : c = 47
    · rw [if_pos hc] at h
      obtain ⟨rfl, rfl⟩ : [] = a ∧ r = b := by simpa using h
      rw [hc]; rfl
    · rw [if_neg hc] at h
      cases hs : spl r with
      | none => rw [hs] at h; simp at h
      | some p =>
        obtain ⟨a', b'⟩ := p
        rw [hs] at h
        obtain ⟨rfl, rfl⟩ : c :: a' = a ∧ b' = b := by simpa using h
        rw [ih hs]; rfl
theorem itoa_one : Lib.itoa 1 = [49] := by decide +kernel

/-- The text of a rational. -/
def rq (q : Rat) : ByteArray := ⟨(txtL (Lib.itoa q.num) (Lib.itoa (q.den : Int))).toArray⟩
theorem rq_data (q : Rat) : (rq q).data.toList = txtL (Lib.itoa q.num) (Lib.itoa (q.den : Int)) := rfl
theorem rq_spl (q : Rat) : (q.den = 1 ∧ spl (rq q).data.toList = none ∧ (rq q).data.toList = Lib.itoa q.num) ∨ (q.den ≠ 1 ∧ spl (rq q).data.toList = some (Lib.itoa q.num, Lib.itoa (q.den : Int))) := by
  rw [rq_data]
  unfold txtL
  by_cases h : q.den = 1
  · left
    have e : Lib.itoa (q.den : Int) = [49] := by rw [h]; exact itoa_one
    rw [if_pos e]
    exact ⟨h, spl_none _ (itoa_slash _), rfl⟩
  · right
    have e : ¬ Lib.itoa (q.den : Int) = [49] := by
      rw [← itoa_one]; intro g
      have := itoa_inj g; omega
    rw [if_neg e]
    exact ⟨h, spl_mid _ _ (itoa_slash _)⟩
theorem rq_nB (q : Rat) : nB (rq q).data.toList = Lib.itoa q.num := by
  unfold nB
  rcases rq_spl q with ⟨_, h, h2⟩ | ⟨_, h⟩
  · rw [h]; exact h2
  · rw [h]
theorem rq_dB (q : Rat) : dB (rq q).data.toList = Lib.itoa (q.den : Int) := by
  unfold dB
  rcases rq_spl q with ⟨hd, h, _⟩ | ⟨_, h⟩
  · rw [h, hd]; exact itoa_one.symm
  · rw [h]
theorem rq_hB (q : Rat) : hB (rq q).data.toList = decide (q.den ≠ 1) := by
  unfold hB
  rcases rq_spl q with ⟨hd, h, _⟩ | ⟨hd, h⟩
  · rw [h, hd]; rfl
  · rw [h, decide_eq_true hd]; rfl
theorem rq_inj {a b : Rat} (h : rq a = rq b) : a = b := by
  have h1 := rq_nB a; have h2 := rq_dB a
  rw [h] at h1 h2
  rw [rq_nB] at h1
  rw [rq_dB] at h2
  have e1 := itoa_inj h1
  have e2 := itoa_inj h2
  exact Rat.ext e1.symm (by omega)
/-- Both parts have at most 1,000 digits. -/
def Sml (q : Rat) : Prop := q.num.natAbs < lim ∧ (q.den : Int).natAbs < lim
theorem rq_chk {q : Rat} (h : Sml q) : chkR (rq q).data.toList = 0 := by
  obtain ⟨hn, hd⟩ := h
  have c1 := chk_of_abs hn
  have c2 := chk_of_abs hd
  unfold chkR
  rw [rq_nB, rq_dB, rq_hB, c1, c2, num_itoa, num_itoa]
  rw [if_neg, if_neg, if_neg]
  · rintro ⟨_, g⟩; exact g (by rw [Int.natAbs_natCast]; exact q.reduced)
  · rintro (g | g) <;> exact g rfl
  · rintro (g | g | ⟨g, g2⟩)
    · cases g
    · cases g
    · have hp := q.den_pos
      have : okD (Lib.itoa (q.den : Int)) = true := (okD_num c2).2 (by
        rw [num_itoa]
        have := of_decide_eq_true g
        omega)
      rw [this] at g2; cases g2
theorem rq_of {s : ByteArray} (h : chkR s.data.toList = 0) : ∃ q : Rat, s = rq q ∧ q.num = num (nB s.data.toList) ∧ (q.den : Int) = num (dB s.data.toList) ∧ Sml q := by
  obtain ⟨h1, h2, h3, h4, h5⟩ := chkR_zero h
  have hd : ((num (dB s.data.toList)).toNat : Int) = num (dB s.data.toList) := by omega
  refine ⟨⟨num (nB s.data.toList), (num (dB s.data.toList)).toNat, by omega, ?_⟩, ?_, rfl, hd, ?_⟩
  · show Nat.gcd _ _ = 1
    rw [← h4]; congr 1; omega
  · apply WideShapes.bytes_inj
    rw [rq_data]
    show _ = txtL (Lib.itoa (num (nB s.data.toList))) (Lib.itoa ((num (dB s.data.toList)).toNat : Int))
    rw [hd, ← itoa_zero_num _ h1, ← itoa_zero_num _ h2]
    cases hh : hB s.data.toList
    · rw [dB_plain hh]
      unfold hB at hh
      unfold txtL nB
      cases hs : spl s.data.toList with
      | none => simp
      | some p => rw [hs] at hh; simp at hh
    · have hne : ¬ dB s.data.toList = [49] := by
        intro e
        have := h5.1 hh
        rw [e, num_one] at this; omega
      unfold txtL
      rw [if_neg hne]
      unfold hB at hh
      unfold nB dB
      cases hs : spl s.data.toList with
      | none => rw [hs] at hh; simp at hh
      | some p =>
        obtain ⟨a, b⟩ := p
        have hl := (spl_at_back hs)
        simpa using hl
  · have e (l : List UInt8) (hc : chk l = 0) : (num l).natAbs < lim := by
      have := chk_itoa (num l)
      rw [← itoa_zero_num l hc, hc] at this
      by_cases g : (num l).natAbs < lim
      · exact g
      · rw [if_neg g] at this; cases this
    exact ⟨e _ h1, by show (((num (dB s.data.toList)).toNat : Nat) : Int).natAbs < lim; rw [hd]; exact e _ h2⟩
end Go.Proofs.YtgjhgkglfflmjaaGreatDoor

/- Joined: RatM, RatO, RatN. -/
import Derived.Test.YtalnfbgaiegicaaGreatDoorRatA
/- Layer 2: texts of rationals and the rational numbers themselves. No walk. -/
namespace Go.Proofs.YtalnfbgaiegicaaGreatDoor
open Go Go.RowKit

theorem qN_rat {x y : Int} (h : y ≠ 0) : qN x y = (Rat.divInt x y).num := by
  have hg : ((Nat.gcd x.natAbs y.natAbs : Nat) : Int) ∣ x := Int.natAbs_dvd_natAbs.1 (by rw [Int.natAbs_natCast]; exact Nat.gcd_dvd_left _ _)
  have e : Int.gcd y x = Nat.gcd x.natAbs y.natAbs := Nat.gcd_comm _ _
  rw [Rat.num_divInt, e]
  unfold qN qG
  rcases Int.lt_trichotomy y 0 with h1 | h1 | h1
  · rw [if_pos h1, Int.sign_eq_neg_one_of_neg h1, Int.ediv_neg, Int.neg_one_mul, Int.neg_ediv_of_dvd hg]
  · exact absurd h1 h
  · rw [if_neg (by omega), Int.sign_eq_one_of_pos h1, Int.one_mul]
theorem qD_rat {x y : Int} (h : y ≠ 0) : qD x y = ((Rat.divInt x y).den : Int) := by
  have hg : ((Nat.gcd x.natAbs y.natAbs : Nat) : Int) ∣ y := Int.natAbs_dvd_natAbs.1 (by rw [Int.natAbs_natCast]; exact Nat.gcd_dvd_right _ _)
  have e : Int.gcd y x = Nat.gcd x.natAbs y.natAbs := Nat.gcd_comm _ _
  rw [Rat.den_divInt, if_neg h, e]
  unfold qD qG
  rcases Int.lt_trichotomy y 0 with h1 | h1 | h1
  · rw [if_pos h1, Int.natCast_ediv, Int.ediv_neg, ← Int.neg_ediv_of_dvd hg]
    congr 1; omega
  · exact absurd h1 h
  · rw [if_neg (by omega), Int.natCast_ediv]
    congr 1; omega
theorem rat_add (a b : Rat) : a + b = Rat.divInt (a.num * b.den + b.num * a.den) (a.den * b.den) := by
  rw [Rat.add_def', ← Rat.divInt_ofNat]; simp
theorem rat_sub (a b : Rat) : a - b = Rat.divInt (a.num * b.den - b.num * a.den) (a.den * b.den) := by
  rw [Rat.sub_def', ← Rat.divInt_ofNat]; simp
theorem rat_mul (a b : Rat) : a * b = Rat.divInt (a.num * b.num) (a.den * b.den) := by
  rw [Rat.mul_def', ← Rat.divInt_ofNat]; simp
theorem rat_inv (b : Rat) (h : b ≠ 0) : (b⁻¹).num = b.num.sign * b.den ∧ ((b⁻¹).den : Int) = b.num.natAbs := by
  have hn : b.num ≠ 0 := fun e => h (Rat.num_eq_zero.1 e)
  rw [Rat.num_inv, Rat.den_inv, if_neg hn]; exact ⟨rfl, rfl⟩
/-- How two rationals compare. -/
def cmpQ (a b : Rat) : Int := if a < b then -1 else if b < a then 1 else 0
theorem cmpZ_rat (a b : Rat) : cmpZ (a.num * b.den) (b.num * a.den) = cmpQ a b := by
  unfold cmpZ cmpQ
  simp only [Rat.lt_iff]
theorem den_ne (q : Rat) : (q.den : Int) ≠ 0 := by have := q.den_pos; omega

/-- No numeral has a slash. -/
theorem odB_slash (b : List UInt8) (h : odB b = true) : ∀ c ∈ b, c ≠ 47 := by
  intro c hc e
  have := (dgB_iff c).1 (List.all_eq_true.1 h c hc)
  rw [e] at this
  exact absurd this.1 (by decide)
theorem itoa_slash (z : Int) : ∀ c ∈ Lib.itoa z, c ≠ 47 := by
  have h : ¬ chk (Lib.itoa z) = 12 := by rw [chk_itoa]; split <;> decide
  rcases can_cases _ h with h1 | ⟨_, h2⟩
  · rw [h1]; intro c hc; simp at hc; rw [hc]; decide
  · cases hn : ngB (Lib.itoa z)
    · rw [bod_pos _ hn] at h2; exact odB_slash _ h2
    · intro c hc
      rw [neg_cons _ hn] at hc
      rcases List.mem_cons.1 hc with e | e
      · rw [e]; decide
      · exact odB_slash _ h2 c e
theorem spl_mid : ∀ (a b : List UInt8), (∀ c ∈ a, c ≠ 47) → spl (a ++ 47 :: b) = some (a, b)
  | [], b, _ => by simp [spl]
  | c :: r, b, h => by
    have h1 := spl_mid r b fun d hd => h d (by simp [hd])
    show spl (c :: (r ++ 47 :: b)) = _
    unfold spl
    rw [if_neg (h c (by simp)), h1]; rfl
theorem spl_at_back {l a b : List UInt8} (h : spl l = some (a, b)) : l = a ++ 47 :: b := by
  induction l generalizing a b with
  | nil => simp [spl] at h
  | cons c r ih =>
    unfold spl at h
    by_cases hc : c = 47
    · rw [if_pos hc] at h
      obtain ⟨rfl, rfl⟩ : [] = a ∧ r = b := by simpa using h
      rw [hc]; rfl
    · rw [if_neg hc] at h
      cases hs : spl r with
      | none => rw [hs] at h; simp at h
      | some p =>
        obtain ⟨a', b'⟩ := p
        rw [hs] at h
        obtain ⟨rfl, rfl⟩ : c :: a' = a ∧ b' = b := by simpa using h
        rw [ih hs]; rfl
theorem itoa_one : Lib.itoa 1 = [49] := by decide +kernel

/-- The text of a rational. -/
def rq (q : Rat) : ByteArray := ⟨(txtL (Lib.itoa q.num) (Lib.itoa (q.den : Int))).toArray⟩
theorem rq_data (q : Rat) : (rq q).data.toList = txtL (Lib.itoa q.num) (Lib.itoa (q.den : Int)) := rfl
theorem rq_spl (q : Rat) : (q.den = 1 ∧ spl (rq q).data.toList = none ∧ (rq q).data.toList = Lib.itoa q.num) ∨ (q.den ≠ 1 ∧ spl (rq q).data.toList = some (Lib.itoa q.num, Lib.itoa (q.den : Int))) := by
  rw [rq_data]
  unfold txtL
  by_cases h : q.den = 1
  · left
    have e : Lib.itoa (q.den : Int) = [49] := by rw [h]; exact itoa_one
    rw [if_pos e]
    exact ⟨h, spl_none _ (itoa_slash _), rfl⟩
  · right
    have e : ¬ Lib.itoa (q.den : Int) = [49] := by
      rw [← itoa_one]; intro g
      have := itoa_inj g; omega
    rw [if_neg e]
    exact ⟨h, spl_mid _ _ (itoa_slash _)⟩
theorem rq_nB (q : Rat) : nB (rq q).data.toList = Lib.itoa q.num := by
  unfold nB
  rcases rq_spl q with ⟨_, h, h2⟩ | ⟨_, h⟩
  · rw [h]; exact h2
  · rw [h]
theorem rq_dB (q : Rat) : dB (rq q).data.toList = Lib.itoa (q.den : Int) := by
  unfold dB
  rcases rq_spl q with ⟨hd, h, _⟩ | ⟨_, h⟩
  · rw [h, hd]; exact itoa_one.symm
  · rw [h]
theorem rq_hB (q : Rat) : hB (rq q).data.toList = decide (q.den ≠ 1) := by
  unfold hB
  rcases rq_spl q with ⟨hd, h, _⟩ | ⟨hd, h⟩
  · rw [h, hd]; rfl
  · rw [h, decide_eq_true hd]; rfl
theorem rq_inj {a b : Rat} (h : rq a = rq b) : a = b := by
  have h1 := rq_nB a; have h2 := rq_dB a
  rw [h] at h1 h2
  rw [rq_nB] at h1
  rw [rq_dB] at h2
  have e1 := itoa_inj h1
  have e2 := itoa_inj h2
  exact Rat.ext e1.symm (by omega)
/-- Both parts have at most 1,000 digits. -/
def Sml (q : Rat) : Prop := q.num.natAbs < lim ∧ (q.den : Int).natAbs < lim
theorem rq_chk {q : Rat} (h : Sml q) : chkR (rq q).data.toList = 0 := by
  obtain ⟨hn, hd⟩ := h
  have c1 := chk_of_abs hn
  have c2 := chk_of_abs hd
  unfold chkR
  rw [rq_nB, rq_dB, rq_hB, c1, c2, num_itoa, num_itoa]
  rw [if_neg, if_neg, if_neg]
  · rintro ⟨_, g⟩; exact g (by rw [Int.natAbs_natCast]; exact q.reduced)
  · rintro (g | g) <;> exact g rfl
  · rintro (g | g | ⟨g, g2⟩)
    · cases g
    · cases g
    · have hp := q.den_pos
      have : okD (Lib.itoa (q.den : Int)) = true := (okD_num c2).2 (by
        rw [num_itoa]
        have := of_decide_eq_true g
        omega)
      rw [this] at g2; cases g2
theorem rq_of {s : ByteArray} (h : chkR s.data.toList = 0) : ∃ q : Rat, s = rq q ∧ q.num = num (nB s.data.toList) ∧ (q.den : Int) = num (dB s.data.toList) ∧ Sml q := by
  obtain ⟨h1, h2, h3, h4, h5⟩ := chkR_zero h
  have hd : ((num (dB s.data.toList)).toNat : Int) = num (dB s.data.toList) := by omega
  refine ⟨⟨num (nB s.data.toList), (num (dB s.data.toList)).toNat, by omega, ?_⟩, ?_, rfl, hd, ?_⟩
  · show Nat.gcd _ _ = 1
    rw [← h4]; congr 1; omega
  · apply WideShapes.bytes_inj
    rw [rq_data]
    show _ = txtL (Lib.itoa (num (nB s.data.toList))) (Lib.itoa ((num (dB s.data.toList)).toNat : Int))
    rw [hd, ← itoa_zero_num _ h1, ← itoa_zero_num _ h2]
    cases hh : hB s.data.toList
    · rw [dB_plain hh]
      unfold hB at hh
      unfold txtL nB
      cases hs : spl s.data.toList with
      | none => simp
      | some p => rw [hs] at hh; simp at hh
    · have hne : ¬ dB s.data.toList = [49] := by
        intro e
        have := h5.1 hh
        rw [e, num_one] at this; omega
      unfold txtL
      rw [if_neg hne]
      unfold hB at hh
      unfold nB dB
      cases hs : spl s.data.toList with
      | none => rw [hs] at hh; simp at hh
      | some p =>
        obtain ⟨a, b⟩ := p
        have hl := (spl_at_back hs)
        simpa using hl
  · have e (l : List UInt8) (hc : chk l = 0) : (num l).natAbs < lim := by
      have := chk_itoa (num l)
      rw [← itoa_zero_num l hc, hc] at this
      by_cases g : (num l).natAbs < lim
      · exact g
      · rw [if_neg g] at this; cases this
    exact ⟨e _ h1, by show (((num (dB s.data.toList)).toNat : Nat) : Int).natAbs < lim; rw [hd]; exact e _ h2⟩
end Go.Proofs.YtalnfbgaiegicaaGreatDoor
/- Layer 2: the order of rational numbers. No walk. -/
namespace Go.Proofs.YtalnfbgaiegicaaGreatDoor
open Go Go.RowKit

theorem cmpQ_tri (a b : Rat) : (a < b ∧ cmpQ a b = -1) ∨ (a = b ∧ cmpQ a b = 0) ∨ (b < a ∧ cmpQ a b = 1) := by
  unfold cmpQ
  by_cases h : a < b
  · exact .inl ⟨h, if_pos h⟩
  · rw [if_neg h]
    by_cases h2 : b < a
    · exact .inr (.inr ⟨h2, if_pos h2⟩)
    · exact .inr (.inl ⟨Rat.le_antisymm (Rat.not_lt.1 h2) (Rat.not_lt.1 h), if_neg h2⟩)
theorem cmpQ_lt {a b : Rat} (h : a < b) : cmpQ a b = -1 := if_pos h
theorem cmpQ_gt {a b : Rat} (h : b < a) : cmpQ a b = 1 := by
  unfold cmpQ
  rw [if_neg (fun g => absurd (Rat.le_of_lt g) (Rat.not_le.2 h)), if_pos h]
theorem cmpQ_eq (a : Rat) : cmpQ a a = 0 := by unfold cmpQ; rw [if_neg Rat.lt_irrefl, if_neg Rat.lt_irrefl]
theorem cmpQ_swap (a b : Rat) : cmpQ b a = -cmpQ a b := by
  rcases cmpQ_tri a b with ⟨h, e⟩ | ⟨rfl, e⟩ | ⟨h, e⟩
  · rw [e, cmpQ_gt h]; rfl
  · rw [e]; rfl
  · rw [e, cmpQ_lt h]
theorem cmpQ_add (a b c : Rat) : cmpQ (a + c) (b + c) = cmpQ a b := by
  unfold cmpQ
  simp only [Rat.add_lt_add_right]
theorem cmpQ_mul (a b c : Rat) : cmpQ (a * c) (b * c) = cmpQ a b * cmpQ c 0 := by
  rcases cmpQ_tri c 0 with ⟨h, e⟩ | ⟨rfl, e⟩ | ⟨h, e⟩
  · rw [e]
    have hn : 0 < -c := by have := Rat.neg_lt_neg h; rwa [Rat.neg_zero] at this
    have k (x y : Rat) : x * c < y * c ↔ y < x := by
      have := Rat.mul_lt_mul_right (a := y) (b := x) hn
      rw [Rat.mul_neg, Rat.mul_neg, Rat.neg_lt_neg_iff] at this
      exact this
    rcases cmpQ_tri a b with ⟨g, e2⟩ | ⟨rfl, e2⟩ | ⟨g, e2⟩
    · rw [e2, cmpQ_gt ((k _ _).2 g)]; rfl
    · rw [e2, cmpQ_eq]; rfl
    · rw [e2, cmpQ_lt ((k _ _).2 g)]; rfl
  · rw [e, Rat.mul_zero, Rat.mul_zero, cmpQ_eq, Int.mul_zero]
  · rw [e, Int.mul_one]
    unfold cmpQ
    simp only [Rat.mul_lt_mul_right h]
theorem cmpQ_trans {a b c : Rat} (h : cmpQ a b ≤ 0) (h2 : cmpQ b c ≤ 0) : cmpQ a c ≤ 0 ∧ (cmpQ a b < 0 → cmpQ a c < 0) := by
  have k (x y : Rat) (h : cmpQ x y ≤ 0) : x ≤ y := by
    rcases cmpQ_tri x y with ⟨g, _⟩ | ⟨rfl, _⟩ | ⟨_, e⟩
    · exact Rat.le_of_lt g
    · exact Rat.le_refl
    · rw [e] at h; exact absurd h (by decide)
  have h3 := Rat.le_trans (k _ _ h) (k _ _ h2)
  constructor
  · rcases cmpQ_tri a c with ⟨_, e⟩ | ⟨_, e⟩ | ⟨g, e⟩
    · rw [e]; decide
    · rw [e]; decide
    · exact absurd h3 (Rat.not_le.2 g)
  · intro hl
    rcases cmpQ_tri a c with ⟨_, e⟩ | ⟨rfl, e⟩ | ⟨g, e⟩
    · rw [e]; decide
    · have := Rat.le_antisymm (k _ _ h) (k _ _ h2)
      rw [this, cmpQ_eq] at hl
      exact absurd hl (by decide)
    · exact absurd h3 (Rat.not_le.2 g)
end Go.Proofs.YtalnfbgaiegicaaGreatDoor
/- Layer 2: what the operations on rationals answer. No walk. -/
namespace Go.Proofs.YtalnfbgaiegicaaGreatDoor
open Go Go.RowKit

/-- The rational that a text stands for. -/
def qv (l : List UInt8) : Rat := Rat.divInt (num (nB l)) (num (dB l))
theorem qv_rq (q : Rat) : qv (rq q).data.toList = q := by
  unfold qv; rw [rq_nB, rq_dB, num_itoa, num_itoa]; exact Rat.num_divInt_den q
/-- Short enough for an integer. -/
def LB (z : Int) : Bool := decide (z.natAbs < lim)
theorem LB_true {z : Int} : LB z = true ↔ z.natAbs < lim := decide_eq_true_iff
theorem LB_false {z : Int} (h : LB z = false) : ¬ z.natAbs < lim := of_decide_eq_false h
/-- The errors of the operations: 0 where there is none. -/
def addC (a b : Rat) : Int := if LB (a.num * b.den) && LB (b.num * a.den) && LB (a.den * b.den) && LB (a.num * b.den + b.num * a.den) then 0 else 14
def subC (a b : Rat) : Int := if LB (a.num * b.den) && LB (b.num * a.den) && LB (a.den * b.den) && LB (a.num * b.den - b.num * a.den) then 0 else 14
def mulC (a b : Rat) : Int := if LB (a.num * b.num) && LB (a.den * b.den) then 0 else 14
def divC (a b : Rat) : Int := if b.num = 0 then 16 else if LB (a.num * b.den) && LB (a.den * b.num) then 0 else 14
def comC (a b : Rat) : Int := if LB (a.num * b.den) && LB (b.num * a.den) then 0 else 14
/-- A result's numerator, denominator and text. -/
def nT (c : Int) (q : Rat) : ByteArray := if c = 0 then rep q.num else ⟨#[]⟩
def dT (c : Int) (q : Rat) : ByteArray := if c = 0 then rep (q.den : Int) else ⟨#[]⟩
def qT (c : Int) (q : Rat) : ByteArray := if c = 0 then rq q else ⟨#[]⟩
/-- What an operation on two texts answers. -/
def twC (f : Rat → Rat → Int) (l m : List UInt8) : Int := if ¬ chkR l = 0 then chkR l else if ¬ chkR m = 0 then chkR m else f (qv l) (qv m)
def twT (f : Rat → Rat → Int) (g : Rat → Rat → Rat) (l m : List UInt8) : ByteArray := qT (twC f l m) (g (qv l) (qv m))
theorem twC_rq {f : Rat → Rat → Int} {a b : Rat} (ha : Sml a) (hb : Sml b) : twC f (rq a).data.toList (rq b).data.toList = f a b := by
  unfold twC; rw [if_neg (fun h => h (rq_chk ha)), if_neg (fun h => h (rq_chk hb)), qv_rq, qv_rq]
theorem twT_rq {f : Rat → Rat → Int} {g : Rat → Rat → Rat} {a b : Rat} (ha : Sml a) (hb : Sml b) : twT f g (rq a).data.toList (rq b).data.toList = qT (f a b) (g a b) := by
  unfold twT; rw [twC_rq ha hb, qv_rq, qv_rq]
theorem twC_l {f : Rat → Rat → Int} {l m : List UInt8} (h : ¬ chkR l = 0) : twC f l m = chkR l := by unfold twC; rw [if_pos h]
theorem twC_r {f : Rat → Rat → Int} {l m : List UInt8} (h0 : chkR l = 0) (h : ¬ chkR m = 0) : twC f l m = chkR m := by unfold twC; rw [if_neg (fun g => g h0), if_pos h]
theorem qT_err {c : Int} {q : Rat} (h : ¬ c = 0) : qT c q = ⟨#[]⟩ := if_neg h
theorem qT_ok (q : Rat) : qT 0 q = rq q := if_pos rfl
theorem nT_err {c : Int} {q : Rat} (h : ¬ c = 0) : nT c q = ⟨#[]⟩ := if_neg h
theorem nT_ok (q : Rat) : nT 0 q = rep q.num := if_pos rfl
theorem dT_err {c : Int} {q : Rat} (h : ¬ c = 0) : dT c q = ⟨#[]⟩ := if_neg h
theorem dT_ok (q : Rat) : dT 0 q = rep (q.den : Int) := if_pos rfl
/-- Parts that are short stay short when they are reduced. -/
theorem sml_divInt {x y : Int} (h : y ≠ 0) (hx : x.natAbs < lim) (hy : y.natAbs < lim) : Sml (Rat.divInt x y) := by
  constructor
  · rw [← qN_rat h]; exact qN_abs hx
  · rw [← qD_rat h]; exact qD_abs hy
theorem den_mul_ne (a b : Rat) : (a.den * b.den : Int) ≠ 0 := Int.mul_ne_zero (den_ne a) (den_ne b)
theorem addC_ok {a b : Rat} (h : addC a b = 0) : (a.num * b.den : Int).natAbs < lim ∧ (b.num * a.den : Int).natAbs < lim ∧ (a.den * b.den : Int).natAbs < lim ∧ (a.num * b.den + b.num * a.den : Int).natAbs < lim ∧ Sml (a + b) := by
  unfold addC at h
  split at h
  · next g =>
    simp only [Bool.and_eq_true, LB_true] at g
    obtain ⟨⟨⟨g1, g2⟩, g3⟩, g4⟩ := g
    exact ⟨g1, g2, g3, g4, by rw [rat_add]; exact sml_divInt (den_mul_ne a b) g4 g3⟩
  · cases h
theorem subC_ok {a b : Rat} (h : subC a b = 0) : (a.num * b.den : Int).natAbs < lim ∧ (b.num * a.den : Int).natAbs < lim ∧ (a.den * b.den : Int).natAbs < lim ∧ (a.num * b.den - b.num * a.den : Int).natAbs < lim ∧ Sml (a - b) := by
  unfold subC at h
  split at h
  · next g =>
    simp only [Bool.and_eq_true, LB_true] at g
    obtain ⟨⟨⟨g1, g2⟩, g3⟩, g4⟩ := g
    exact ⟨g1, g2, g3, g4, by rw [rat_sub]; exact sml_divInt (den_mul_ne a b) g4 g3⟩
  · cases h
theorem mulC_ok {a b : Rat} (h : mulC a b = 0) : (a.num * b.num : Int).natAbs < lim ∧ (a.den * b.den : Int).natAbs < lim ∧ Sml (a * b) := by
  unfold mulC at h
  split at h
  · next g =>
    simp only [Bool.and_eq_true, LB_true] at g
    exact ⟨g.1, g.2, by rw [rat_mul]; exact sml_divInt (den_mul_ne a b) g.1 g.2⟩
  · cases h
theorem rat_div (a b : Rat) (_h : b.num ≠ 0) : a / b = Rat.divInt (a.num * b.den) (a.den * b.num) := by
  have hb : b⁻¹ = Rat.divInt b.den b.num := by
    rw [Rat.inv_def]
  rw [Rat.div_def, hb]
  conv => lhs; rw [← Rat.num_divInt_den a]
  rw [Rat.divInt_mul_divInt]
theorem num_ne {b : Rat} (h : b.num ≠ 0) : b ≠ 0 := fun e => h (by rw [e]; rfl)
theorem divC_ok {a b : Rat} (h : divC a b = 0) : b.num ≠ 0 ∧ (a.num * b.den : Int).natAbs < lim ∧ (a.den * b.num : Int).natAbs < lim ∧ Sml (a / b) := by
  unfold divC at h
  split at h
  · cases h
  · next h0 =>
    split at h
    · next g =>
      simp only [Bool.and_eq_true, LB_true] at g
      exact ⟨h0, g.1, g.2, by rw [rat_div a b h0]; exact sml_divInt (Int.mul_ne_zero (den_ne a) h0) g.1 g.2⟩
    · cases h
end Go.Proofs.YtalnfbgaiegicaaGreatDoor

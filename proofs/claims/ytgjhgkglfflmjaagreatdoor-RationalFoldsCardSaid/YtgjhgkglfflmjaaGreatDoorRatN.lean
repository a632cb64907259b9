/- Layer 2: what the operations on rationals answer. No walk. -/
import Derived.Test.YtgjhgkglfflmjaaGreatDoorRatO
namespace Go.Proofs.YtgjhgkglfflmjaaGreatDoor
open Go Go.RowKit

/-- The rational that a text stands for. -/
def qv (l : List UInt8) : Rat := Rat.divInt (num (nB l)) (num (dB l))
theorem qv_rq (q : Rat) : qv (rq q).data.toList = q := by
  unfold qv; rw [rq_nB, rq_dB, num_itoa, num_itoa]; exact Rat.num_divInt_den q
/-- Short enough for an integer. -/
def LB (z : Int) : Bool := decide (z.natAbs < lim)
theorem LB_true {z : Int} : LB z = true ↔ z.natAbs < lim := decide_eq_true_iff
theorem LB_false {z : Int} (h : LB z = false) : ¬ z.natAbs < lim := of_decide_eq_false h
/-- The errors of the operations: 0 where there is none. -/
def addC (a b : Rat) : Int := if LB (a.num * b.den) && LB (b.num * a.den) && LB (a.den * b.den) && LB (a.num * b.den + b.num * a.den) then 0 else 14
def subC (a b : Rat) : Int := if LB (a.num * b.den) && LB (b.num * a.den) && LB (a.den * b.den) && LB (a.num * b.den - b.num * a.den) then 0 else 14
def mulC (a b : Rat) : Int := if LB (a.num * b.num) && LB (a.den * b.den) then 0 else 14
def divC (a b : Rat) : Int := if b.num = 0 then 16 else if LB (a.num * b.den) && LB (a.den * b.num) then 0 else 14
def comC (a b : Rat) : Int := if LB (a.num * b.den) && LB (b.num * a.den) then 0 else 14
/-- A result's numerator, denominator and text. -/
def nT (c : Int) (q : Rat) : ByteArray := if c = 0 then rep q.num else ⟨#[]⟩
def dT (c : Int) (q : Rat) : ByteArray := if c = 0 then rep (q.den : Int) else ⟨#[]⟩
def qT (c : Int) (q : Rat) : ByteArray := if c = 0 then rq q else ⟨#[]⟩
/-- What an operation on two texts answers. -/
def twC (f : Rat → Rat → Int) (l m : List UInt8) : Int := if ¬ chkR l = 0 then chkR l else if ¬ chkR m = 0 then chkR m else f (qv l) (qv m)
def twT (f : Rat → Rat → Int) (g : Rat → Rat → Rat) (l m : List UInt8) : ByteArray := qT (twC f l m) (g (qv l) (qv m))
theorem twC_rq {f : Rat → Rat → Int} {a b : Rat} (ha : Sml a) (hb : Sml b) : twC f (rq a).data.toList (rq b).data.toList = f a b := by
  unfold twC; rw [if_neg (fun h => h (rq_chk ha)), if_neg (fun h => h (rq_chk hb)), qv_rq, qv_rq]
theorem twT_rq {f : Rat → Rat → Int} {g : Rat → Rat → Rat} {a b : Rat} (ha : Sml a) (hb : Sml b) : twT f g (rq a).data.toList (rq b).data.toList = qT (f a b) (g a b) := by
  unfold twT; rw [twC_rq ha hb, qv_rq, qv_rq]
theorem twC_l {f : Rat → Rat → Int} {l m : List UInt8} (h : ¬ chkR l = 0) : twC f l m = chkR l := by unfold twC; rw [if_pos h]
theorem twC_r {f : Rat → Rat → Int} {l m : List UInt8} (h0 : chkR l = 0) (h : ¬ chkR m = 0) : twC f l m = chkR m := by unfold twC; rw [if_neg (fun g => g h0), if_pos h]
theorem qT_err {c : Int} {q : Rat} (h : ¬ c = 0) : qT c q = ⟨#[]⟩ := if_neg h
theorem qT_ok (q : Rat) : qT 0 q = rq q := if_pos rfl
theorem nT_err {c : Int} {q : Rat} (h : ¬ c = 0) : nT c q = ⟨#[]⟩ := if_neg h
theorem nT_ok (q : Rat) : nT 0 q = rep q.num := if_pos rfl
theorem dT_err {c : Int} {q : Rat} (h : ¬ c = 0) : dT c q = ⟨#[]⟩ := if_neg h
theorem dT_ok (q : Rat) : dT 0 q = rep (q.den : Int) := if_pos rfl
/-- Parts that are short stay short when they are reduced. -/
theorem sml_divInt {x y : Int} (h : y ≠ 0) (hx : x.natAbs < lim) (hy : y.natAbs < lim) : Sml (Rat.divInt x y) := by
  constructor
  · rw [← qN_rat h]; exact qN_abs hx
  · rw [← qD_rat h]; exact qD_abs hy
theorem den_mul_ne (a b : Rat) : (a.den * b.den : Int) ≠ 0 := Int.mul_ne_zero (den_ne a) (den_ne b)
theorem addC_ok {a b : Rat} (h : addC a b = 0) : (a.num * b.den : Int).natAbs < lim ∧ (b.num * a.den : Int).natAbs < lim ∧ (a.den * b.den : Int).natAbs < lim ∧ (a.num * b.den + b.num * a.den : Int).natAbs < lim ∧ Sml (a + b) := by
  unfold addC at h
  split at h
  · next g =>
    simp only [Bool.and_eq_true, LB_true] at g
    obtain ⟨⟨⟨g1, g2⟩, g3⟩, g4⟩ := g
    exact ⟨g1, g2, g3, g4, by rw [rat_add]; exact sml_divInt (den_mul_ne a b) g4 g3⟩
  · cases h
theorem subC_ok {a b : Rat} (h : subC a b = 0) : (a.num * b.den : Int).natAbs < lim ∧ (b.num * a.den : Int).natAbs < lim ∧ (a.den * b.den : Int).natAbs < lim ∧ (a.num * b.den - b.num * a.den : Int).natAbs < lim ∧ Sml (a - b) := by
  unfold subC at h
  split at h
  · next g =>
    simp only [Bool.and_eq_true, LB_true] at g
    obtain ⟨⟨⟨g1, g2⟩, g3⟩, g4⟩ := g
    exact ⟨g1, g2, g3, g4, by rw [rat_sub]; exact sml_divInt (den_mul_ne a b) g4 g3⟩
  · cases h
theorem mulC_ok {a b : Rat} (h : mulC a b = 0) : (a.num * b.num : Int).natAbs < lim ∧ (a.den * b.den : Int).natAbs < lim ∧ Sml (a * b) := by
  unfold mulC at h
  split at h
  · next g =>
    simp only [Bool.and_eq_true, LB_true] at g
    exact ⟨g.1, g.2, by rw [rat_mul]; exact sml_divInt (den_mul_ne a b) g.1 g.2⟩
  · cases h
theorem rat_div (a b : Rat) (h : b.num ≠ 0) : a / b = Rat.divInt (a.num * b.den) (a.den * b.num) := by
  have hb : b⁻¹ = Rat.divInt b.den b.num := by
    rw [Rat.inv_def]
  rw [Rat.div_def, hb]
  conv => lhs; rw [← Rat.num_divInt_den a]
  rw [Rat.divInt_mul_divInt]
theorem num_ne {b : Rat} (h : b.num ≠ 0) : b ≠ 0 := fun e => h (by rw [e]; rfl)
theorem divC_ok {a b : Rat} (h : divC a b = 0) : b.num ≠ 0 ∧ (a.num * b.den : Int).natAbs < lim ∧ (a.den * b.num : Int).natAbs < lim ∧ Sml (a / b) := by
  unfold divC at h
  split at h
  · cases h
  · next h0 =>
    split at h
    · next g =>
      simp only [Bool.and_eq_true, LB_true] at g
      exact ⟨h0, g.1, g.2, by rw [rat_div a b h0]; exact sml_divInt (Int.mul_ne_zero (den_ne a) h0) g.1 g.2⟩
    · cases h
end Go.Proofs.YtgjhgkglfflmjaaGreatDoor

/- Layer 2: rationals of few digits. No walk. -/
import Derived.Test.YtgjhgkglfflmjaaGreatDoorRatAf
namespace Go.Proofs.YtgjhgkglfflmjaaGreatDoor
open Go Go.RowKit

/-- Both parts have at most k digits. -/
def QD (k : Nat) (q : Rat) : Prop := Dg k q.num ∧ Dg k (q.den : Int)
theorem QD.sml {k : Nat} {q : Rat} (h : QD k q) (hk : k ≤ 1000) : Sml q := ⟨h.1.lim hk, h.2.lim hk⟩
theorem QD.mono {k m : Nat} {q : Rat} (h : QD k q) (hk : k ≤ m) : QD m q := ⟨h.1.mono hk, h.2.mono hk⟩
theorem qd_divInt {k m : Nat} {x y : Int} (h : y ≠ 0) (hx : Dg k x) (hy : Dg m y) : Dg k (Rat.divInt x y).num ∧ Dg m ((Rat.divInt x y).den : Int) := by
  constructor
  · rw [← qN_rat h]; exact hx.of_le (Int.natAbs_ediv_le_natAbs _ _)
  · rw [← qD_rat h]; exact hy.of_le (Int.natAbs_ediv_le_natAbs _ _)
theorem QD.add {k m : Nat} {a b : Rat} (ha : QD k a) (hb : QD m b) : QD (k + m + 1) (a + b) := by
  rw [rat_add]
  have h1 := ha.1.mul hb.2
  have h2 := hb.1.mul ha.2
  rw [Nat.add_comm m k] at h2
  obtain ⟨g1, g2⟩ := qd_divInt (den_mul_ne a b) (h1.add h2) (ha.2.mul hb.2)
  exact ⟨g1, g2.mono (by omega)⟩
theorem QD.sub {k m : Nat} {a b : Rat} (ha : QD k a) (hb : QD m b) : QD (k + m + 1) (a - b) := by
  rw [rat_sub]
  have h1 := ha.1.mul hb.2
  have h2 := hb.1.mul ha.2
  rw [Nat.add_comm m k] at h2
  obtain ⟨g1, g2⟩ := qd_divInt (den_mul_ne a b) (h1.sub h2) (ha.2.mul hb.2)
  exact ⟨g1, g2.mono (by omega)⟩
theorem QD.mul {k m : Nat} {a b : Rat} (ha : QD k a) (hb : QD m b) : QD (k + m) (a * b) := by
  rw [rat_mul]
  exact qd_divInt (den_mul_ne a b) (ha.1.mul hb.1) (ha.2.mul hb.2)
theorem QD.div {k m : Nat} {a b : Rat} (ha : QD k a) (hb : QD m b) (h0 : b.num ≠ 0) : QD (k + m) (a / b) := by
  rw [rat_div a b h0]
  exact qd_divInt (Int.mul_ne_zero (den_ne a) h0) (ha.1.mul hb.2) (ha.2.mul hb.1)
theorem LB_of {k : Nat} {z : Int} (h : Dg k z) (hk : k ≤ 1000) : LB z = true := LB_true.2 (h.lim hk)
theorem addC_zero {k m : Nat} {a b : Rat} (ha : QD k a) (hb : QD m b) (h : k + m + 1 ≤ 1000) : addC a b = 0 := by
  have h1 := ha.1.mul hb.2
  have h2 := hb.1.mul ha.2
  rw [Nat.add_comm m k] at h2
  unfold addC
  rw [LB_of h1 (by omega), LB_of h2 (by omega), LB_of (ha.2.mul hb.2) (by omega), LB_of (h1.add h2) h]; rfl
theorem subC_zero {k m : Nat} {a b : Rat} (ha : QD k a) (hb : QD m b) (h : k + m + 1 ≤ 1000) : subC a b = 0 := by
  have h1 := ha.1.mul hb.2
  have h2 := hb.1.mul ha.2
  rw [Nat.add_comm m k] at h2
  unfold subC
  rw [LB_of h1 (by omega), LB_of h2 (by omega), LB_of (ha.2.mul hb.2) (by omega), LB_of (h1.sub h2) h]; rfl
theorem mulC_zero {k m : Nat} {a b : Rat} (ha : QD k a) (hb : QD m b) (h : k + m ≤ 1000) : mulC a b = 0 := by
  unfold mulC
  rw [LB_of (ha.1.mul hb.1) h, LB_of (ha.2.mul hb.2) h]; rfl
theorem divC_zero {k m : Nat} {a b : Rat} (ha : QD k a) (hb : QD m b) (h0 : b.num ≠ 0) (h : k + m ≤ 1000) : divC a b = 0 := by
  unfold divC
  rw [if_neg h0, LB_of (ha.1.mul hb.2) h, LB_of (ha.2.mul hb.1) h]; rfl
theorem comC_zero {k m : Nat} {a b : Rat} (ha : QD k a) (hb : QD m b) (h : k + m ≤ 1000) : comC a b = 0 := by
  unfold comC
  rw [LB_of (ha.1.mul hb.2) h, LB_of (hb.1.mul ha.2) (by omega)]; rfl
theorem dg_list {l : List UInt8} {n : Nat} (h : chk l = 0) (hn : l.length ≤ n) : Dg n (num l) :=
  dg_of (s := ⟨l.toArray⟩) h hn
/-- A text of at most n bytes. -/
theorem qd_of {s : ByteArray} {n : Nat} (h : chkR s.data.toList = 0) (hn : s.size ≤ n) (h1 : 1 ≤ n) : ∃ q : Rat, rq q = s ∧ QD n q := by
  obtain ⟨q, e1, e2, e3, _⟩ := rq_of h
  obtain ⟨c1, c2, _⟩ := chkR_zero h
  refine ⟨q, e1.symm, ?_, ?_⟩
  · rw [e2]
    exact dg_list c1 (Nat.le_trans (nB_len _) (by rw [← Lib.size_eq]; exact hn))
  · rw [e3]
    refine dg_list c2 ?_
    rw [Lib.size_eq] at hn
    unfold dB
    cases hs : spl s.data.toList with
    | none => exact h1
    | some p => obtain ⟨a, b⟩ := p; have := (spl_len hs).1; show b.length ≤ n; omega
theorem rq_zero : rq 0 = ⟨#[48]⟩ := by decide +kernel
theorem rq_one : rq 1 = ⟨#[49]⟩ := by decide +kernel
theorem qd_zero : QD 1 0 := by unfold QD Dg; decide
theorem qd_one : QD 1 1 := by unfold QD Dg; decide
theorem rq_ne (q : Rat) (s : ByteArray) (h : rq q = s) : (s.toList == []) = false := by
  rw [← h, Lib.toList_data, beq_eq_false_iff_ne, rq_data]
  unfold txtL
  split
  · exact itoa_ne _
  · simp
theorem rq_is_zero (q : Rat) (s : ByteArray) (h : rq q = s) : (s.toList == [48]) = decide (q = 0) := by
  rw [← h, Lib.toList_data, Bool.eq_iff_iff, beq_iff_eq, decide_eq_true_iff]
  constructor
  · intro e
    have : rq q = rq 0 := by rw [rq_zero]; exact WideShapes.bytes_inj e
    exact rq_inj this
  · rintro rfl; rw [rq_zero]
theorem o_radd {k m : Nat} {a b c : Rat} (ha : QD k a) (hb : QD m b) (h : k + m + 1 ≤ 1000) (hc : a + b = c) (s t r : ByteArray) (hs : rq a = s) (ht : rq b = t) (hr : rq c = r) (w : World) (hv : VarR w) :
    Calls Tryz.prog 35 #[.func (.func 14) #[] #[], .string s, .string t] w (StrR r w) :=
  opradd_rq (ha.sml (by omega)) (hb.sml (by omega)) (addC_zero ha hb h) hc s t r hs ht hr w hv
theorem o_rsub {k m : Nat} {a b c : Rat} (ha : QD k a) (hb : QD m b) (h : k + m + 1 ≤ 1000) (hc : a - b = c) (s t r : ByteArray) (hs : rq a = s) (ht : rq b = t) (hr : rq c = r) (w : World) (hv : VarR w) :
    Calls Tryz.prog 35 #[.func (.func 25) #[] #[], .string s, .string t] w (StrR r w) :=
  oprsub_rq (ha.sml (by omega)) (hb.sml (by omega)) (subC_zero ha hb h) hc s t r hs ht hr w hv
theorem o_rmul {k m : Nat} {a b c : Rat} (ha : QD k a) (hb : QD m b) (h : k + m ≤ 1000) (hc : a * b = c) (s t r : ByteArray) (hs : rq a = s) (ht : rq b = t) (hr : rq c = r) (w : World) (hv : VarR w) :
    Calls Tryz.prog 35 #[.func (.func 13) #[] #[], .string s, .string t] w (StrR r w) :=
  oprmul_rq (ha.sml (by omega)) (hb.sml (by omega)) (mulC_zero ha hb h) hc s t r hs ht hr w hv
theorem o_rdiv {k m : Nat} {a b c : Rat} (ha : QD k a) (hb : QD m b) (h0 : b.num ≠ 0) (h : k + m ≤ 1000) (hc : a / b = c) (s t r : ByteArray) (hs : rq a = s) (ht : rq b = t) (hr : rq c = r) (w : World) (hv : VarR w) :
    Calls Tryz.prog 35 #[.func (.func 16) #[] #[], .string s, .string t] w (StrR r w) :=
  oprdiv_rq (ha.sml (by omega)) (hb.sml (by omega)) (divC_zero ha hb h0 h) hc s t r hs ht hr w hv
theorem c_rat {k m : Nat} {a b : Rat} {c : Int} (ha : QD k a) (hb : QD m b) (h : k + m ≤ 1000) (hc : cmpQ a b = c) (s t : ByteArray) (hs : rq a = s) (ht : rq b = t) (w : World) (hv : VarR w) :
    Calls Tryz.prog 15 #[.string s, .string t] w (CmE c 0 w) :=
  rcompare_rq (ha.sml (by omega)) (hb.sml (by omega)) (comC_zero ha hb h) hc s t hs ht w hv
theorem rdiv_zero {k m : Nat} {a b : Rat} (ha : QD k a) (hb : QD m b) (h : k ≤ 1000) (h2 : m ≤ 1000) (h0 : b = 0) (s t : ByteArray) (hs : rq a = s) (ht : rq b = t) (w : World) (hv : VarR w) :
    Calls Tryz.prog 16 #[.string s, .string t] w (StE ⟨#[]⟩ 16 w) := by
  subst hs; subst ht
  have sa := ha.sml h
  have sb := hb.sml h2
  have k1 := rdiv_any (rq a) (rq b) (by have := rq_size sa; omega) (by have := rq_size sb; omega) w hv
  have e : divC a b = 16 := by unfold divC; rw [h0]; exact if_pos rfl
  rw [twT_rq sa sb, twC_rq sa sb, e, qT_err (by decide)] at k1
  exact k1
end Go.Proofs.YtgjhgkglfflmjaaGreatDoor

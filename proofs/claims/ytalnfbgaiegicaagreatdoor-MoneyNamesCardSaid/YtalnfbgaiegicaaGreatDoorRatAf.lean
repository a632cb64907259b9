/- Joined: RatAf, RatAg, RatAh. -/
import Derived.Test.YtalnfbgaiegicaaGreatDoorRatAc
/- The walks of layer 2: what the laws share: op, fits, the examples. -/
namespace Go.Proofs.YtalnfbgaiegicaaGreatDoor
open Go Go.RowKit

/-- All strings are canonical rationals of at most n bytes. -/
def fitR (n : Nat) (ss : List ByteArray) : Bool := ss.all fun s => decide (s.size ≤ n) && decide (chkR s.data.toList = 0)
theorem fitR_next {n k : Nat} {ss : List ByteArray} (h : k < ss.length) (ha : fitR n (ss.take k) = true) (h1 : ss[k].size ≤ n) (h2 : chkR ss[k].data.toList = 0) : fitR n (ss.take (k + 1)) = true := by
  rw [take_snoc ss k h]
  unfold fitR at ha ⊢
  rw [List.all_append, ha]
  simp [h1, h2]
theorem fitR_not {n k : Nat} {ss : List ByteArray} (h : k < ss.length) (h1 : ¬ (ss[k].size ≤ n ∧ chkR ss[k].data.toList = 0)) : fitR n ss = false := by
  unfold fitR
  rw [List.all_eq_false]
  refine ⟨ss[k], List.getElem_mem h, ?_⟩
  simpa using h1

theorem rfit_three {n : Nat} {s t u : ByteArray} (h : fitR n [s, t, u] = true) : (s.size ≤ n ∧ chkR s.data.toList = 0) ∧ (t.size ≤ n ∧ chkR t.data.toList = 0) ∧ (u.size ≤ n ∧ chkR u.data.toList = 0) := by
  simpa [fitR, and_assoc] using h
theorem rfit_one {n : Nat} {s : ByteArray} (h : fitR n [s] = true) : s.size ≤ n ∧ chkR s.data.toList = 0 := by
  simpa [fitR] using h
/-- The operation on two rationals, its result known. -/
theorem rsub_rq {a b c : Rat} (ha : Sml a) (hb : Sml b) (h0 : subC a b = 0) (hc : a - b = c) (s t r : ByteArray) (hs : rq a = s) (ht : rq b = t) (hr : rq c = r) (w : World) (hv : VarR w) :
    Calls Tryz.prog 26 #[.string s, .string t] w (StE r 0 w) := by
  subst hc; subst hs; subst ht; subst hr
  have h := rsub_any (rq a) (rq b) (by have := rq_size ha; omega) (by have := rq_size hb; omega) w hv
  rw [twT_rq ha hb, twC_rq ha hb, h0, qT_ok] at h
  exact h
/-- The operation on two rationals, its result known. -/
theorem rmul_rq {a b c : Rat} (ha : Sml a) (hb : Sml b) (h0 : mulC a b = 0) (hc : a * b = c) (s t r : ByteArray) (hs : rq a = s) (ht : rq b = t) (hr : rq c = r) (w : World) (hv : VarR w) :
    Calls Tryz.prog 32 #[.string s, .string t] w (StE r 0 w) := by
  subst hc; subst hs; subst ht; subst hr
  have h := rmul_any (rq a) (rq b) (by have := rq_size ha; omega) (by have := rq_size hb; omega) w hv
  rw [twT_rq ha hb, twC_rq ha hb, h0, qT_ok] at h
  exact h
/-- The operation on two rationals, its result known. -/
theorem rdiv_rq {a b c : Rat} (ha : Sml a) (hb : Sml b) (h0 : divC a b = 0) (hc : a / b = c) (s t r : ByteArray) (hs : rq a = s) (ht : rq b = t) (hr : rq c = r) (w : World) (hv : VarR w) :
    Calls Tryz.prog 25 #[.string s, .string t] w (StE r 0 w) := by
  subst hc; subst hs; subst ht; subst hr
  have h := rdiv_any (rq a) (rq b) (by have := rq_size ha; omega) (by have := rq_size hb; omega) w hv
  rw [twT_rq ha hb, twC_rq ha hb, h0, qT_ok] at h
  exact h
theorem rcompare_rq {a b : Rat} {c : Int} (ha : Sml a) (hb : Sml b) (h0 : comC a b = 0) (hc : cmpQ a b = c) (s t : ByteArray) (hs : rq a = s) (ht : rq b = t) (w : World) (hv : VarR w) :
    Calls Tryz.prog 28 #[.string s, .string t] w (CmE c 0 w) := by
  subst hc; subst hs; subst ht
  have h := rcompare_any (rq a) (rq b) (by have := rq_size ha; omega) (by have := rq_size hb; omega) w hv
  unfold twK at h
  rw [twC_rq ha hb, h0, if_pos rfl, qv_rq, qv_rq] at h
  exact h
theorem al_div (w : World) (hv : VarR w) : Calls Tryz.prog 25 #[.string ⟨#[45, 50]⟩, .string ⟨#[52, 47, 51]⟩] w (StE ⟨#[45, 51, 47, 50]⟩ 0 w) := by
  have h := rdiv_any ⟨#[45, 50]⟩ ⟨#[52, 47, 51]⟩ (by decide) (by decide) w hv
  rw [show twC divC (⟨#[45, 50]⟩ : ByteArray).data.toList (⟨#[52, 47, 51]⟩ : ByteArray).data.toList = 0 by decide +kernel, show twT divC (· / ·) (⟨#[45, 50]⟩ : ByteArray).data.toList (⟨#[52, 47, 51]⟩ : ByteArray).data.toList = ⟨#[45, 51, 47, 50]⟩ by decide +kernel] at h
  exact h
theorem al_r00 (w : World) (hv : VarR w) : Calls Tryz.prog 34 #[.string ⟨#[53, 47, 50]⟩, .int .u8 0] w (StE ⟨#[50]⟩ 0 w) := by
  have h := Round_any ⟨#[53, 47, 50]⟩ (by decide) 0 (by decide) (by decide) w hv
  rw [show roC 0 (⟨#[53, 47, 50]⟩ : ByteArray).data.toList = 0 by decide +kernel, show roT 0 (⟨#[53, 47, 50]⟩ : ByteArray).data.toList = ⟨#[50]⟩ by decide +kernel] at h
  exact h
theorem al_r01 (w : World) (hv : VarR w) : Calls Tryz.prog 34 #[.string ⟨#[53, 47, 50]⟩, .int .u8 1] w (StE ⟨#[51]⟩ 0 w) := by
  have h := Round_any ⟨#[53, 47, 50]⟩ (by decide) 1 (by decide) (by decide) w hv
  rw [show roC 1 (⟨#[53, 47, 50]⟩ : ByteArray).data.toList = 0 by decide +kernel, show roT 1 (⟨#[53, 47, 50]⟩ : ByteArray).data.toList = ⟨#[51]⟩ by decide +kernel] at h
  exact h
theorem al_r02 (w : World) (hv : VarR w) : Calls Tryz.prog 34 #[.string ⟨#[53, 47, 50]⟩, .int .u8 2] w (StE ⟨#[51]⟩ 0 w) := by
  have h := Round_any ⟨#[53, 47, 50]⟩ (by decide) 2 (by decide) (by decide) w hv
  rw [show roC 2 (⟨#[53, 47, 50]⟩ : ByteArray).data.toList = 0 by decide +kernel, show roT 2 (⟨#[53, 47, 50]⟩ : ByteArray).data.toList = ⟨#[51]⟩ by decide +kernel] at h
  exact h
theorem al_r03 (w : World) (hv : VarR w) : Calls Tryz.prog 34 #[.string ⟨#[53, 47, 50]⟩, .int .u8 3] w (StE ⟨#[50]⟩ 0 w) := by
  have h := Round_any ⟨#[53, 47, 50]⟩ (by decide) 3 (by decide) (by decide) w hv
  rw [show roC 3 (⟨#[53, 47, 50]⟩ : ByteArray).data.toList = 0 by decide +kernel, show roT 3 (⟨#[53, 47, 50]⟩ : ByteArray).data.toList = ⟨#[50]⟩ by decide +kernel] at h
  exact h
theorem al_r04 (w : World) (hv : VarR w) : Calls Tryz.prog 34 #[.string ⟨#[53, 47, 50]⟩, .int .u8 4] w (StE ⟨#[50]⟩ 0 w) := by
  have h := Round_any ⟨#[53, 47, 50]⟩ (by decide) 4 (by decide) (by decide) w hv
  rw [show roC 4 (⟨#[53, 47, 50]⟩ : ByteArray).data.toList = 0 by decide +kernel, show roT 4 (⟨#[53, 47, 50]⟩ : ByteArray).data.toList = ⟨#[50]⟩ by decide +kernel] at h
  exact h
theorem al_r10 (w : World) (hv : VarR w) : Calls Tryz.prog 34 #[.string ⟨#[45, 53, 47, 50]⟩, .int .u8 0] w (StE ⟨#[45, 50]⟩ 0 w) := by
  have h := Round_any ⟨#[45, 53, 47, 50]⟩ (by decide) 0 (by decide) (by decide) w hv
  rw [show roC 0 (⟨#[45, 53, 47, 50]⟩ : ByteArray).data.toList = 0 by decide +kernel, show roT 0 (⟨#[45, 53, 47, 50]⟩ : ByteArray).data.toList = ⟨#[45, 50]⟩ by decide +kernel] at h
  exact h
theorem al_r11 (w : World) (hv : VarR w) : Calls Tryz.prog 34 #[.string ⟨#[45, 53, 47, 50]⟩, .int .u8 1] w (StE ⟨#[45, 51]⟩ 0 w) := by
  have h := Round_any ⟨#[45, 53, 47, 50]⟩ (by decide) 1 (by decide) (by decide) w hv
  rw [show roC 1 (⟨#[45, 53, 47, 50]⟩ : ByteArray).data.toList = 0 by decide +kernel, show roT 1 (⟨#[45, 53, 47, 50]⟩ : ByteArray).data.toList = ⟨#[45, 51]⟩ by decide +kernel] at h
  exact h
theorem al_r12 (w : World) (hv : VarR w) : Calls Tryz.prog 34 #[.string ⟨#[45, 53, 47, 50]⟩, .int .u8 2] w (StE ⟨#[45, 51]⟩ 0 w) := by
  have h := Round_any ⟨#[45, 53, 47, 50]⟩ (by decide) 2 (by decide) (by decide) w hv
  rw [show roC 2 (⟨#[45, 53, 47, 50]⟩ : ByteArray).data.toList = 0 by decide +kernel, show roT 2 (⟨#[45, 53, 47, 50]⟩ : ByteArray).data.toList = ⟨#[45, 51]⟩ by decide +kernel] at h
  exact h
theorem al_r13 (w : World) (hv : VarR w) : Calls Tryz.prog 34 #[.string ⟨#[45, 53, 47, 50]⟩, .int .u8 3] w (StE ⟨#[45, 50]⟩ 0 w) := by
  have h := Round_any ⟨#[45, 53, 47, 50]⟩ (by decide) 3 (by decide) (by decide) w hv
  rw [show roC 3 (⟨#[45, 53, 47, 50]⟩ : ByteArray).data.toList = 0 by decide +kernel, show roT 3 (⟨#[45, 53, 47, 50]⟩ : ByteArray).data.toList = ⟨#[45, 50]⟩ by decide +kernel] at h
  exact h
theorem al_r14 (w : World) (hv : VarR w) : Calls Tryz.prog 34 #[.string ⟨#[45, 53, 47, 50]⟩, .int .u8 4] w (StE ⟨#[45, 51]⟩ 0 w) := by
  have h := Round_any ⟨#[45, 53, 47, 50]⟩ (by decide) 4 (by decide) (by decide) w hv
  rw [show roC 4 (⟨#[45, 53, 47, 50]⟩ : ByteArray).data.toList = 0 by decide +kernel, show roT 4 (⟨#[45, 53, 47, 50]⟩ : ByteArray).data.toList = ⟨#[45, 51]⟩ by decide +kernel] at h
  exact h
/-- n ones. -/
def one1 (n : Nat) : List UInt8 := List.replicate n 49
end Go.Proofs.YtalnfbgaiegicaaGreatDoor
/- Layer 2: rationals of few digits. No walk. -/
namespace Go.Proofs.YtalnfbgaiegicaaGreatDoor
open Go Go.RowKit

/-- Both parts have at most k digits. -/
def QD (k : Nat) (q : Rat) : Prop := Dg k q.num ∧ Dg k (q.den : Int)
theorem QD.sml {k : Nat} {q : Rat} (h : QD k q) (hk : k ≤ 1000) : Sml q := ⟨h.1.lim hk, h.2.lim hk⟩
theorem QD.mono {k m : Nat} {q : Rat} (h : QD k q) (hk : k ≤ m) : QD m q := ⟨h.1.mono hk, h.2.mono hk⟩
theorem qd_divInt {k m : Nat} {x y : Int} (h : y ≠ 0) (hx : Dg k x) (hy : Dg m y) : Dg k (Rat.divInt x y).num ∧ Dg m ((Rat.divInt x y).den : Int) := by
  constructor
  · rw [← qN_rat h]; exact hx.of_le (Int.natAbs_ediv_le_natAbs _ _)
  · rw [← qD_rat h]; exact hy.of_le (Int.natAbs_ediv_le_natAbs _ _)
theorem QD.add {k m : Nat} {a b : Rat} (ha : QD k a) (hb : QD m b) : QD (k + m + 1) (a + b) := by
  rw [rat_add]
  have h1 := ha.1.mul hb.2
  have h2 := hb.1.mul ha.2
  rw [Nat.add_comm m k] at h2
  obtain ⟨g1, g2⟩ := qd_divInt (den_mul_ne a b) (h1.add h2) (ha.2.mul hb.2)
  exact ⟨g1, g2.mono (by omega)⟩
theorem QD.sub {k m : Nat} {a b : Rat} (ha : QD k a) (hb : QD m b) : QD (k + m + 1) (a - b) := by
  rw [rat_sub]
  have h1 := ha.1.mul hb.2
  have h2 := hb.1.mul ha.2
  rw [Nat.add_comm m k] at h2
  obtain ⟨g1, g2⟩ := qd_divInt (den_mul_ne a b) (h1.sub h2) (ha.2.mul hb.2)
  exact ⟨g1, g2.mono (by omega)⟩
theorem QD.mul {k m : Nat} {a b : Rat} (ha : QD k a) (hb : QD m b) : QD (k + m) (a * b) := by
  rw [rat_mul]
  exact qd_divInt (den_mul_ne a b) (ha.1.mul hb.1) (ha.2.mul hb.2)
theorem QD.div {k m : Nat} {a b : Rat} (ha : QD k a) (hb : QD m b) (h0 : b.num ≠ 0) : QD (k + m) (a / b) := by
  rw [rat_div a b h0]
  exact qd_divInt (Int.mul_ne_zero (den_ne a) h0) (ha.1.mul hb.2) (ha.2.mul hb.1)
theorem LB_of {k : Nat} {z : Int} (h : Dg k z) (hk : k ≤ 1000) : LB z = true := LB_true.2 (h.lim hk)
theorem addC_zero {k m : Nat} {a b : Rat} (ha : QD k a) (hb : QD m b) (h : k + m + 1 ≤ 1000) : addC a b = 0 := by
  have h1 := ha.1.mul hb.2
  have h2 := hb.1.mul ha.2
  rw [Nat.add_comm m k] at h2
  unfold addC
  rw [LB_of h1 (by omega), LB_of h2 (by omega), LB_of (ha.2.mul hb.2) (by omega), LB_of (h1.add h2) h]; rfl
theorem subC_zero {k m : Nat} {a b : Rat} (ha : QD k a) (hb : QD m b) (h : k + m + 1 ≤ 1000) : subC a b = 0 := by
  have h1 := ha.1.mul hb.2
  have h2 := hb.1.mul ha.2
  rw [Nat.add_comm m k] at h2
  unfold subC
  rw [LB_of h1 (by omega), LB_of h2 (by omega), LB_of (ha.2.mul hb.2) (by omega), LB_of (h1.sub h2) h]; rfl
theorem mulC_zero {k m : Nat} {a b : Rat} (ha : QD k a) (hb : QD m b) (h : k + m ≤ 1000) : mulC a b = 0 := by
  unfold mulC
  rw [LB_of (ha.1.mul hb.1) h, LB_of (ha.2.mul hb.2) h]; rfl
theorem divC_zero {k m : Nat} {a b : Rat} (ha : QD k a) (hb : QD m b) (h0 : b.num ≠ 0) (h : k + m ≤ 1000) : divC a b = 0 := by
  unfold divC
  rw [if_neg h0, LB_of (ha.1.mul hb.2) h, LB_of (ha.2.mul hb.1) h]; rfl
theorem comC_zero {k m : Nat} {a b : Rat} (ha : QD k a) (hb : QD m b) (h : k + m ≤ 1000) : comC a b = 0 := by
  unfold comC
  rw [LB_of (ha.1.mul hb.2) h, LB_of (hb.1.mul ha.2) (by omega)]; rfl
theorem dg_list {l : List UInt8} {n : Nat} (h : chk l = 0) (hn : l.length ≤ n) : Dg n (num l) :=
  dg_of (s := ⟨l.toArray⟩) h hn
/-- A text of at most n bytes. -/
theorem qd_of {s : ByteArray} {n : Nat} (h : chkR s.data.toList = 0) (hn : s.size ≤ n) (h1 : 1 ≤ n) : ∃ q : Rat, rq q = s ∧ QD n q := by
  obtain ⟨q, e1, e2, e3, _⟩ := rq_of h
  obtain ⟨c1, c2, _⟩ := chkR_zero h
  refine ⟨q, e1.symm, ?_, ?_⟩
  · rw [e2]
    exact dg_list c1 (Nat.le_trans (nB_len _) (by rw [← Lib.size_eq]; exact hn))
  · rw [e3]
    refine dg_list c2 ?_
    rw [Lib.size_eq] at hn
    unfold dB
    cases hs : spl s.data.toList with
    | none => exact h1
    | some p => obtain ⟨a, b⟩ := p; have := (spl_len hs).1; show b.length ≤ n; omega
theorem rq_zero : rq 0 = ⟨#[48]⟩ := by decide +kernel
theorem rq_one : rq 1 = ⟨#[49]⟩ := by decide +kernel
theorem qd_zero : QD 1 0 := by unfold QD Dg; decide
theorem qd_one : QD 1 1 := by unfold QD Dg; decide
theorem rq_ne (q : Rat) (s : ByteArray) (h : rq q = s) : (s.toList == []) = false := by
  rw [← h, Lib.toList_data, beq_eq_false_iff_ne, rq_data]
  unfold txtL
  split
  · exact itoa_ne _
  · simp
theorem rq_is_zero (q : Rat) (s : ByteArray) (h : rq q = s) : (s.toList == [48]) = decide (q = 0) := by
  rw [← h, Lib.toList_data, Bool.eq_iff_iff, beq_iff_eq, decide_eq_true_iff]
  constructor
  · intro e
    have : rq q = rq 0 := by rw [rq_zero]; exact WideShapes.bytes_inj e
    exact rq_inj this
  · rintro rfl; rw [rq_zero]
theorem c_rat {k m : Nat} {a b : Rat} {c : Int} (ha : QD k a) (hb : QD m b) (h : k + m ≤ 1000) (hc : cmpQ a b = c) (s t : ByteArray) (hs : rq a = s) (ht : rq b = t) (w : World) (hv : VarR w) :
    Calls Tryz.prog 28 #[.string s, .string t] w (CmE c 0 w) :=
  rcompare_rq (ha.sml (by omega)) (hb.sml (by omega)) (comC_zero ha hb h) hc s t hs ht w hv
theorem rdiv_zero {k m : Nat} {a b : Rat} (ha : QD k a) (hb : QD m b) (h : k ≤ 1000) (h2 : m ≤ 1000) (h0 : b = 0) (s t : ByteArray) (hs : rq a = s) (ht : rq b = t) (w : World) (hv : VarR w) :
    Calls Tryz.prog 25 #[.string s, .string t] w (StE ⟨#[]⟩ 16 w) := by
  subst hs; subst ht
  have sa := ha.sml h
  have sb := hb.sml h2
  have k1 := rdiv_any (rq a) (rq b) (by have := rq_size sa; omega) (by have := rq_size sb; omega) w hv
  have e : divC a b = 16 := by unfold divC; rw [h0]; exact if_pos rfl
  rw [twT_rq sa sb, twC_rq sa sb, e, qT_err (by decide)] at k1
  exact k1
end Go.Proofs.YtalnfbgaiegicaaGreatDoor
/- Layer 2: how far rounding goes. No walk. -/
namespace Go.Proofs.YtalnfbgaiegicaaGreatDoor
open Go Go.RowKit

theorem rq_int (N : Int) : rq (N : Rat) = rep N := by
  apply WideShapes.bytes_inj
  rw [rq_data, rep_data, Rat.num_intCast, Rat.den_intCast]
  unfold txtL
  rw [if_pos (show Lib.itoa ((1 : Nat) : Int) = [49] from itoa_one)]
/-- The change by rounding, times the denominator. -/
def nrP (m : Nat) (q : Rat) : Int := rndQ m q * q.den - q.num
theorem near_parts (m : Nat) (q : Rat) : (((rndQ m q : Int) : Rat) - q).num = nrP m q ∧ ((((rndQ m q : Int) : Rat) - q).den : Int) = q.den := by
  have e : ((rndQ m q : Int) : Rat) - q = Rat.divInt (nrP m q) q.den := by
    rw [rat_sub, Rat.num_intCast, Rat.den_intCast]
    unfold nrP
    rw [Int.natCast_one, Int.mul_one, Int.one_mul]
  have hg : Nat.gcd (nrP m q).natAbs (q.den : Int).natAbs = 1 := by
    rw [Int.natAbs_natCast]
    have h1 : ((Nat.gcd (nrP m q).natAbs q.den : Nat) : Int) ∣ nrP m q := Int.natAbs_dvd_natAbs.1 (by rw [Int.natAbs_natCast]; exact Nat.gcd_dvd_left _ _)
    have h2 : ((Nat.gcd (nrP m q).natAbs q.den : Nat) : Int) ∣ (q.den : Int) := Int.natCast_dvd_natCast.2 (Nat.gcd_dvd_right _ _)
    have h3 : ((Nat.gcd (nrP m q).natAbs q.den : Nat) : Int) ∣ q.num := by
      have h4 : q.num = rndQ m q * q.den - nrP m q := by unfold nrP; omega
      rw [h4]
      exact Int.dvd_sub (Int.dvd_mul_of_dvd_right h2) h1
    have h5 : Nat.gcd (nrP m q).natAbs q.den ∣ Nat.gcd q.num.natAbs q.den := Nat.dvd_gcd (by have := Int.natAbs_dvd_natAbs.2 h3; rwa [Int.natAbs_natCast] at this) (Nat.gcd_dvd_right _ _)
    rw [show Nat.gcd q.num.natAbs q.den = 1 from q.reduced] at h5
    exact Nat.eq_one_of_dvd_one h5
  have hd := q.den_pos
  have hG : qG (nrP m q) q.den = 1 := by unfold qG; rw [if_neg (by omega), hg]; rfl
  rw [e, ← qN_rat (den_ne q), ← qD_rat (den_ne q)]
  unfold qN qD
  rw [hG, Int.ediv_one, Int.ediv_one]
  exact ⟨rfl, rfl⟩
/-- The absolute value. -/
def absQ (q : Rat) : Rat := if q.num < 0 then -q else q
theorem absQ_parts (q : Rat) : (absQ q).num = (q.num.natAbs : Int) ∧ (absQ q).den = q.den := by
  unfold absQ
  split
  · exact ⟨by rw [Rat.neg_num]; omega, rfl⟩
  · exact ⟨by omega, rfl⟩
theorem rq_neg_text (q : Rat) (h : q.num < 0) (s : ByteArray) (hs : rq q = s) : (∃ h0 : 0 < s.size, ((s[0].toNat : Int) == 45) = true) ∧ s.extract 1 s.size = rq (absQ q) := by
  obtain ⟨u, hu⟩ := Int.eq_ofNat_of_zero_le (show 0 ≤ -q.num by omega)
  have hn : q.num = -(u : Int) := by omega
  have e1 : (rq q) = ⟨⟨45 :: txtL (Lib.decDigits u) (Lib.itoa (q.den : Int))⟩⟩ := by
    unfold rq
    rw [hn, itoa_neg u (by omega)]
    unfold txtL
    split <;> rfl
  have e2 : rq (absQ q) = ⟨⟨txtL (Lib.decDigits u) (Lib.itoa (q.den : Int))⟩⟩ := by
    unfold rq
    obtain ⟨a1, a2⟩ := absQ_parts q
    rw [a1, a2, hn]
    rw [show (((-(u : Int)).natAbs : Nat) : Int) = (u : Int) by omega, itoa_pos]
  rw [e1] at hs
  subst hs
  rw [e2]
  exact ⟨⟨Nat.succ_pos _, beq_of 45 45 true rfl (by omega)⟩, extract_tail _ _⟩
theorem rq_pos_text (q : Rat) (h : 0 ≤ q.num) (s : ByteArray) (hs : rq q = s) : ∃ h0 : 0 < s.size, ((s[0].toNat : Int) == 45) = false := by
  obtain ⟨c, r, e, hc⟩ := itoa_head_pos q.num h
  have e1 : ∃ r', rq q = ⟨⟨c :: r'⟩⟩ := by
    unfold rq txtL
    rw [e]
    split
    · exact ⟨_, rfl⟩
    · exact ⟨_, rfl⟩
  obtain ⟨r', e1⟩ := e1
  rw [e1] at hs
  subst hs
  exact ⟨Nat.succ_pos _, beq_of 45 c false (by rw [beq_eq_false_iff_ne]; exact hc) (by omega)⟩
theorem cmpQ_zero (q : Rat) : cmpQ q 0 = cmpZ q.num 0 := by
  rw [← cmpZ_rat]
  show cmpZ (q.num * 1) (0 * (q.den : Int)) = _
  rw [Int.mul_one, Int.zero_mul]
theorem cmpQ_one (q : Rat) : cmpQ q 1 = cmpZ q.num q.den := by
  rw [← cmpZ_rat]
  show cmpZ (q.num * 1) (1 * (q.den : Int)) = _
  rw [Int.mul_one, Int.one_mul]
/-- One half. -/
def hlf : Rat := Rat.divInt 1 2
theorem hlf_text : rq hlf = ⟨#[49, 47, 50]⟩ := by decide +kernel
theorem qd_hlf : QD 1 hlf := by unfold QD Dg; decide +kernel
theorem cmpQ_half (q : Rat) : cmpQ q hlf = cmpZ (2 * q.num) q.den := by
  rw [← cmpZ_rat]
  have h1 : hlf.num = 1 := by decide +kernel
  have h2 : hlf.den = 2 := by decide +kernel
  rw [h1, h2, Int.one_mul]
  congr 1; omega
/-- What the law asks of rounding by rule m: the sign of the change, of the number, and how far it is to one half. -/
theorem near_facts (m : Nat) (q : Rat) (hm : m ≤ 4) (hd1 : q.den ≠ 1) :
    cmpZ ((nrP m q).natAbs : Int) q.den = -1 ∧
    ∃ s g h : Int, cmpZ (nrP m q) 0 = s ∧ cmpZ q.num 0 = g ∧ cmpZ (2 * ((nrP m q).natAbs : Int)) q.den = h ∧
      (m = 0 → (s = -1 ∧ g = 1) ∨ (s = 1 ∧ g = -1)) ∧ (m = 1 → (s = 1 ∧ g = 1) ∨ (s = -1 ∧ g = -1)) ∧ (m = 4 → s = -1) ∧
      (m = 2 → h = -1 ∨ (h = 0 ∧ ((s = 1 ∧ g = 1) ∨ (s = -1 ∧ g = -1)))) ∧ (m = 3 → h = -1 ∨ (h = 0 ∧ rndQ m q % 2 = 0)) ∧ (s = -1 ∨ s = 1) := by
  have hd := q.den_pos
  have h0 := Int.emod_nonneg q.num (den_ne q)
  have h1 := Int.emod_lt_of_pos q.num (show 0 < (q.den : Int) by omega)
  have h2 := Int.mul_ediv_add_emod q.num q.den
  have hr : q.num % q.den ≠ 0 := by
    intro e
    have hdv : (q.den : Int) ∣ q.num := Int.dvd_of_emod_eq_zero e
    have : q.den ∣ q.num.natAbs := by have := Int.natAbs_dvd_natAbs.2 hdv; rwa [Int.natAbs_natCast] at this
    have h6 : q.den ∣ Nat.gcd q.num.natAbs q.den := Nat.dvd_gcd this (Nat.dvd_refl _)
    rw [show Nat.gcd q.num.natAbs q.den = 1 from q.reduced] at h6
    exact hd1 (Nat.eq_one_of_dvd_one h6)
  have hneg : q.num < 0 ↔ q.num / q.den < 0 := ⟨fun h => Int.ediv_neg_of_neg_of_pos h (by omega), fun h => Classical.byContradiction fun g => by have := Int.ediv_nonneg (show 0 ≤ q.num by omega) (show 0 ≤ (q.den : Int) by omega); omega⟩
  have hn0 : q.num ≠ 0 := by intro e; rw [e] at hr; simp at hr
  have hp : nrP m q = if rndUp m q = true then (q.den : Int) - q.num % q.den else -(q.num % q.den) := by
    unfold nrP rndQ
    rw [if_neg hr]
    split
    · rw [Int.add_mul, Int.one_mul, Int.mul_comm (q.num / q.den)]; omega
    · rw [Int.mul_comm (q.num / q.den)]; omega
  have hN : rndQ m q = if rndUp m q = true then q.num / q.den + 1 else q.num / q.den := by unfold rndQ; rw [if_neg hr]
  have hu : rndUp m q = upB m (decide (q.num < 0)) (decide ((q.num / q.den) % 2 = 1)) (cmpZ (q.num % q.den) (q.den - q.num % q.den)) := rfl
  have hpm : (m = 0 ∧ (rndUp m q = true ↔ q.num < 0)) ∨ (m = 1 ∧ (rndUp m q = true ↔ ¬ q.num < 0)) ∨
      (m = 2 ∧ (rndUp m q = true ↔ (q.den - q.num % q.den < q.num % q.den ∨ (q.num % q.den = q.den - q.num % q.den ∧ ¬ q.num < 0)))) ∨
      (m = 3 ∧ (rndUp m q = true ↔ (q.den - q.num % q.den < q.num % q.den ∨ (q.num % q.den = q.den - q.num % q.den ∧ (q.num / q.den) % 2 = 1)))) ∨ (m = 4 ∧ rndUp m q = false) := by
    rw [hu]
    have hc := cmpZ_tri (q.num % q.den) (q.den - q.num % q.den)
    have hmm : m = 0 ∨ m = 1 ∨ m = 2 ∨ m = 3 ∨ m = 4 := by omega
    rcases hmm with rfl | rfl | rfl | rfl | rfl
    · left; exact ⟨rfl, by simp [upB]⟩
    · right; left; exact ⟨rfl, by simp [upB]⟩
    · right; right; left
      refine ⟨rfl, ?_⟩
      rcases hc with ⟨a, e⟩ | ⟨a, e⟩ | ⟨a, e⟩
      · rw [e, show upB 2 (decide (q.num < 0)) (decide ((q.num / q.den) % 2 = 1)) (-1) = false from rfl]
        constructor
        · intro h; cases h
        · intro h; omega
      · rw [e, show upB 2 (decide (q.num < 0)) (decide ((q.num / q.den) % 2 = 1)) 0 = (!decide (q.num < 0)) from rfl]
        simp only [Bool.not_eq_true', decide_eq_false_iff_not]
        omega
      · rw [e, show upB 2 (decide (q.num < 0)) (decide ((q.num / q.den) % 2 = 1)) 1 = true from rfl]
        exact ⟨fun _ => .inl a, fun _ => rfl⟩
    · right; right; right; left
      refine ⟨rfl, ?_⟩
      rcases hc with ⟨a, e⟩ | ⟨a, e⟩ | ⟨a, e⟩
      · rw [e, show upB 3 (decide (q.num < 0)) (decide ((q.num / q.den) % 2 = 1)) (-1) = false from rfl]
        constructor
        · intro h; cases h
        · intro h; omega
      · rw [e, show upB 3 (decide (q.num < 0)) (decide ((q.num / q.den) % 2 = 1)) 0 = (decide ((q.num / q.den) % 2 = 1)) from rfl]
        simp only [decide_eq_true_iff]
        omega
      · rw [e, show upB 3 (decide (q.num < 0)) (decide ((q.num / q.den) % 2 = 1)) 1 = true from rfl]
        exact ⟨fun _ => .inl a, fun _ => rfl⟩
    · right; right; right; right; exact ⟨rfl, rfl⟩
  clear hu hd1
  generalize rndUp m q = u at *
  generalize nrP m q = p at *
  generalize rndQ m q = N at *
  generalize q.num % q.den = r at *
  generalize q.num / q.den = f at *
  generalize q.num = n at *
  generalize (q.den : Int) = d at *
  have t0 := cmpZ_tri p 0
  have t1 := cmpZ_tri n 0
  have t2 := cmpZ_tri (2 * (p.natAbs : Int)) d
  have t3 := cmpZ_tri (p.natAbs : Int) d
  generalize cmpZ p 0 = s at *
  generalize cmpZ n 0 = g at *
  generalize cmpZ (2 * (p.natAbs : Int)) d = h at *
  generalize cmpZ (p.natAbs : Int) d = o at *
  have hdp : 0 < d := by omega
  cases u
  · simp only [Bool.false_eq_true, if_false, false_iff] at *
    subst hp; subst hN
    refine ⟨by omega, s, g, h, rfl, rfl, rfl, ?_, ?_, ?_, ?_, ?_, ?_⟩ <;> omega
  · simp only [if_true, true_iff, Bool.true_eq_false, and_false, or_false] at *
    subst hp; subst hN
    refine ⟨by omega, s, g, h, rfl, rfl, rfl, ?_, ?_, ?_, ?_, ?_, ?_⟩ <;> omega
end Go.Proofs.YtalnfbgaiegicaaGreatDoor

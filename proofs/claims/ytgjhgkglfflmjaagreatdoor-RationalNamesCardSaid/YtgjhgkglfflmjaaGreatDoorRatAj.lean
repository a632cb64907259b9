/- The walks of layer 2: Power. -/
import Derived.Test.YtgjhgkglfflmjaaGreatDoorRatAi
namespace Go.Proofs.YtgjhgkglfflmjaaGreatDoor
open Go Go.RowKit

set_option maxRecDepth 100000 in
set_option maxHeartbeats 1600000 in
theorem power_arg (s : ByteArray) (n : Int) (h : n < -1000 ∨ 1000 < n) (w : World) :
    Calls Tryz.prog 19 #[.string s, .int .i64 n] w (StE ⟨#[]⟩ 2 w) := by
  rcases h with h | h
  · go_enter Tryz.func19, Tryz.ntmps19
    go_wp2
    go_ret2
    exact ⟨rfl, Below.refl _ _⟩
  · have h1 : decide (n < -1000) = false := decide_eq_false (by omega)
    go_enter Tryz.func19, Tryz.ntmps19
    go_wp2
    go_ret2
    exact ⟨rfl, Below.refl _ _⟩
set_option maxRecDepth 100000 in
set_option maxHeartbeats 1600000 in
theorem power_parse (s a d : ByteArray) (n c : Int) (h1 : -1000 ≤ n) (h2 : n ≤ 1000) (hc : ¬ c = 0) (w : World)
    (H : Calls Tryz.prog 38 #[.string s] w (PrsR a d c w)) :
    Calls Tryz.prog 19 #[.string s, .int .i64 n] w (StE ⟨#[]⟩ c w) := by
  have J := Lib.hid H
  have hz : (c == 0) = false := by rw [beq_eq_false_iff_ne]; exact hc
  have h3 : decide (n < -1000) = false := decide_eq_false (by omega)
  have h4 : decide (1000 < n) = false := decide_eq_false (by omega)
  clear H hc
  go_enter Tryz.func19, Tryz.ntmps19
  go_wp2_with (go_at_call 38; refine J.out.mono ?_; rintro e w1 ⟨rfl, b⟩; have B := Lib.hid (fun o => b.alloc b.size o); clear b)
  go_ret2
  exact ⟨rfl, B.out _⟩
set_option maxRecDepth 100000 in
set_option maxHeartbeats 1600000 in
theorem power_zero (s a d : ByteArray) (n : Int) (h1 : -1000 ≤ n) (h2 : n < 0) (hz : (a.toList == [48]) = true) (w : World)
    (H : Calls Tryz.prog 38 #[.string s] w (PrsR a d 0 w)) :
    Calls Tryz.prog 19 #[.string s, .int .i64 n] w (StE ⟨#[]⟩ 16 w) := by
  have J := Lib.hid H
  have h3 : decide (n < -1000) = false := decide_eq_false (by omega)
  have h4 : decide (1000 < n) = false := decide_eq_false (by omega)
  clear H
  go_enter Tryz.func19, Tryz.ntmps19
  go_wp2_with (go_at_call 38; refine J.out.mono ?_; rintro e w1 ⟨rfl, b⟩; have B := Lib.hid (fun o => b.alloc b.size o); clear b)
  go_ret2
  exact ⟨rfl, B.out _⟩
set_option maxRecDepth 100000 in
set_option maxHeartbeats 1600000 in
theorem power_pos (s a d R : ByteArray) (n c : Int) (h1 : 0 ≤ n) (h2 : n ≤ 1000) (w : World) (hv : VarT w)
    (H : Calls Tryz.prog 38 #[.string s] w (PrsR a d 0 w))
    (H2 : ∀ W, VarT W → Calls Tryz.prog 51 #[.agg #[.string a, .string d], .int .i64 n] W (StE R c W)) :
    Calls Tryz.prog 19 #[.string s, .int .i64 n] w (StE R c w) := by
  have J := Lib.hid H
  have J2 := Lib.hid H2
  have HV := Lib.hid hv
  have h3 : decide (n < -1000) = false := decide_eq_false (by omega)
  have h4 : decide (1000 < n) = false := decide_eq_false (by omega)
  have h5 : decide (n < 0) = false := decide_eq_false (by omega)
  clear H H2 hv
  go_enter Tryz.func19, Tryz.ntmps19
  go_wp2_with (first
    | (go_at_call 38; refine J.out.mono ?_; rintro e w1 ⟨rfl, b⟩; have B := Lib.hid (fun o => b.alloc b.size o); clear b)
    | (go_at_call 51; refine (J2.out _ (HV.out.below (B.out _))).mono ?_; rintro e w2 ⟨rfl, b⟩; have B2 := Lib.hid (bt (B.out (.cells #[.string a, .string d] 60)) b); clear b))
  go_ret2
  exact ⟨rfl, B2.out⟩
set_option maxRecDepth 100000 in
set_option maxHeartbeats 1600000 in
theorem power_neg (s a d a2 d2 R : ByteArray) (n m c : Int) (h1 : -1000 ≤ n) (h2 : n < 0) (hm : -n = m) (hz : (a.toList == [48]) = false) (w : World) (hv : VarT w)
    (H : Calls Tryz.prog 38 #[.string s] w (PrsR a d 0 w))
    (HI : ∀ W, Calls Tryz.prog 50 #[.agg #[.string a, .string d]] W (FraR a2 d2 W))
    (H2 : ∀ W, VarT W → Calls Tryz.prog 51 #[.agg #[.string a2, .string d2], .int .i64 m] W (StE R c W)) :
    Calls Tryz.prog 19 #[.string s, .int .i64 n] w (StE R c w) := by
  subst hm
  have J := Lib.hid H
  have JI := Lib.hid HI
  have J2 := Lib.hid H2
  have HV := Lib.hid hv
  have h3 : decide (n < -1000) = false := decide_eq_false (by omega)
  have h4 : decide (1000 < n) = false := decide_eq_false (by omega)
  clear H HI H2 hv
  go_enter Tryz.func19, Tryz.ntmps19
  go_wp2_with (first
    | (go_at_call 38; refine J.out.mono ?_; rintro e w1 ⟨rfl, b⟩; have B := Lib.hid (fun o => b.alloc b.size o); have G := Lib.hid (heap_alloc_new w1 (.cells #[.string a, .string d] 60)); have S1 := b.size; clear b)
    | (go_at_call 50; refine (JI.out _).mono ?_; rintro e w2 ⟨rfl, b⟩; have B2 := Lib.hid (bt (B.out (.cells #[.string a, .string d] 60)) b); have G2 := Lib.hid ((b.block _ (lt_of_block G.out)).trans G.out); obtain ⟨k1, k2, k3, k4⟩ := row2 G2.out; clear b)
    | (go_at_call 51; refine (J2.out _ (HV.out.below (bel_sc2 S1 B2.out))).mono ?_; rintro e w3 ⟨rfl, b⟩; have B3 := Lib.hid (bt (bel_sc2 (q := w1.heap.size) (v1 := .string a2) (v2 := .string d2) S1 B2.out) b); clear b))
  go_ret2
  exact ⟨rfl, B3.out⟩
/-- The error and the value of a power, by any exponent. -/
def pwC (q : Rat) (n : Int) : Int := if n < 0 then (if q.num = 0 then 16 else powC q⁻¹ (-n).toNat) else powC q n.toNat
def pwV (q : Rat) (n : Int) : Rat := if n < 0 then q⁻¹ ^ (-n).toNat else q ^ n.toNat
def poC (n : Int) (l : List UInt8) : Int := if n < -1000 ∨ 1000 < n then 2 else if ¬ chkR l = 0 then chkR l else pwC (qv l) n
def poT (n : Int) (l : List UInt8) : ByteArray := qT (poC n l) (pwV (qv l) n)
theorem power_q (q : Rat) (hq : Sml q) (n : Int) (h1 : -1000 ≤ n) (h2 : n ≤ 1000) (w : World) (hv : VarR w) :
    Calls Tryz.prog 19 #[.string (rq q), .int .i64 n] w (StE (qT (pwC q n) (pwV q n)) (pwC q n) w) := by
  unfold pwC pwV
  by_cases hn : n < 0
  · rw [if_pos hn, if_pos hn]
    by_cases h0 : q.num = 0
    · rw [if_pos h0, qT_err (by decide)]
      exact power_zero _ _ _ n h1 hn (by rw [rep_is_zero]; exact decide_eq_true h0) w (parse_q q hq w hv)
    · rw [if_neg h0]
      have hi := sml_inv hq h0
      refine power_neg _ _ _ _ _ _ n (((-n).toNat : Nat) : Int) _ h1 hn (by omega) (by rw [rep_is_zero]; exact decide_eq_false h0) w hv.t (parse_q q hq w hv) (fun W => inverse_q q hq h0 W) (fun W hW => ?_)
      exact raised_q _ hi _ (by omega) W hW
  · rw [if_neg hn, if_neg hn]
    obtain ⟨k, rfl⟩ := Int.eq_ofNat_of_zero_le (show 0 ≤ n by omega)
    exact power_pos _ _ _ _ _ _ (by omega) h2 w hv.t (parse_q q hq w hv) (fun W hW => raised_q q hq k (by omega) W hW)
theorem power_any (s : ByteArray) (hs : s.size ≤ 1048576) (n : Int) (w : World) (hv : VarR w) :
    Calls Tryz.prog 19 #[.string s, .int .i64 n] w (StE (poT n s.data.toList) (poC n s.data.toList) w) := by
  unfold poT poC
  by_cases hn : n < -1000 ∨ 1000 < n
  · rw [if_pos hn, qT_err (by decide)]
    exact power_arg s n hn w
  rw [if_neg hn]
  rcases text_cases s with h1 | ⟨q, rfl, hq⟩
  · rw [if_pos h1, qT_err h1]
    exact power_parse s _ _ n _ (by omega) (by omega) h1 w (parse_e s hs h1 w hv)
  rw [if_neg (fun h => h (rq_chk hq)), qv_rq]
  exact power_q q hq n (by omega) (by omega) w hv
/-- Powers by integers. -/
theorem inv_pow (q : Rat) : ∀ n : Nat, q⁻¹ ^ n = (q ^ n)⁻¹ := by
  intro n
  induction n with
  | zero => rw [Rat.pow_zero, Rat.pow_zero]; decide +kernel
  | succ n ih => rw [Rat.pow_succ, Rat.pow_succ, ih, Rat.inv_mul_rev, Rat.mul_comm]
theorem pwV_zpow (q : Rat) (n : Int) : pwV q n = q ^ n := by
  unfold pwV
  by_cases hn : n < 0
  · rw [if_pos hn, inv_pow, ← Rat.zpow_natCast, ← Rat.zpow_neg]
    congr 1; omega
  · rw [if_neg hn, ← Rat.zpow_natCast]
    congr 1; omega
end Go.Proofs.YtgjhgkglfflmjaaGreatDoor

/- The walk of the law RationalPowers. -/
import Derived.Test.YtgjhgkglfflmjaaGreatDoorRatAj
import Derived.Test.YtgjhgkglfflmjaaGreatDoorRatAm
namespace Go.Proofs.YtgjhgkglfflmjaaGreatDoor
open Go Go.RowKit

theorem Dg.pow {k : Nat} {x : Int} (h : Dg k x) : ∀ n : Nat, Dg (k * n + 1) (x ^ n)
  | 0 => by rw [Int.pow_zero]; exact dg_one.mono (by omega)
  | n + 1 => by
    rw [Int.pow_succ]
    exact ((Dg.pow h n).mul h).mono (by rw [Nat.mul_succ]; omega)
theorem QD.pow {k : Nat} {q : Rat} (h : QD k q) (n : Nat) : QD (k * n + 1) (q ^ n) := by
  refine ⟨?_, ?_⟩
  · rw [Rat.num_pow]; exact h.1.pow n
  · rw [Rat.den_pow, Int.natCast_pow]; exact h.2.pow n
theorem QD.inv {k : Nat} {q : Rat} (h : QD k q) (h0 : q.num ≠ 0) : QD k q⁻¹ := by
  obtain ⟨e1, e2⟩ := rat_inv q (num_ne h0)
  refine ⟨?_, ?_⟩
  · rw [e1]
    refine h.2.of_le ?_
    rcases Int.lt_trichotomy q.num 0 with g | g | g
    · rw [Int.sign_eq_neg_one_of_neg g]; omega
    · exact absurd g h0
    · rw [Int.sign_eq_one_of_pos g]; omega
  · rw [e2]; exact h.1.of_le (by omega)
theorem powC_small {k n : Nat} {q : Rat} (h : QD k q) (hk : k * n + 1 ≤ 1000) : powC q n = 0 := by
  unfold powC
  rw [LB_of (h.1.pow n) hk, LB_of (h.2.pow n) hk]; rfl
theorem pwC_small {q : Rat} (h : QD 20 q) {n : Int} (h1 : -24 ≤ n) (h2 : n ≤ 24) (h0 : q.num ≠ 0 ∨ 0 ≤ n) : pwC q n = 0 := by
  unfold pwC
  by_cases hn : n < 0
  · have h0' : q.num ≠ 0 := by rcases h0 with h | h; exact h; omega
    rw [if_pos hn, if_neg h0']
    exact powC_small (h.inv h0') (by omega)
  · rw [if_neg hn]
    exact powC_small h (by omega)
theorem pwV_qd {q : Rat} (h : QD 20 q) {n : Int} (h1 : -12 ≤ n) (h2 : n ≤ 12) (h0 : q.num ≠ 0) : QD 300 (pwV q n) := by
  unfold pwV
  by_cases hn : n < 0
  · rw [if_pos hn]; exact ((h.inv h0).pow _).mono (by omega)
  · rw [if_neg hn]; exact (h.pow _).mono (by omega)
theorem zero_zpow {m : Int} (h : 0 < m) : (0 : Rat) ^ m = 0 := by
  obtain ⟨k, rfl⟩ : ∃ k : Nat, m = ((k + 1 : Nat) : Int) := ⟨m.toNat - 1, by omega⟩
  rw [Rat.zpow_natCast, Rat.pow_succ, Rat.mul_zero]
/-- The power of a rational of at most 20 digits. -/
theorem power_small (q : Rat) (h : QD 20 q) (s : ByteArray) (hs : rq q = s) (n : Int) (h1 : -24 ≤ n) (h2 : n ≤ 24) (h0 : q.num ≠ 0 ∨ 0 ≤ n) (v : Rat) (hv2 : q ^ n = v) (r : ByteArray) (hr : rq v = r) (w : World) (hv : VarR w) :
    Calls Tryz.prog 19 #[.string s, .int .i64 n] w (StE r 0 w) := by
  subst hs; subst hv2; subst hr
  have k := power_q q (h.sml (by omega)) n (by omega) (by omega) w hv
  rw [pwC_small h h1 h2 h0, qT_ok, pwV_zpow] at k
  exact k
theorem power_zneg (n : Int) (h1 : -24 ≤ n) (h2 : n < 0) (s : ByteArray) (hs : rq 0 = s) (w : World) (hv : VarR w) :
    Calls Tryz.prog 19 #[.string s, .int .i64 n] w (StE ⟨#[]⟩ 16 w) := by
  subst hs
  have k := power_q 0 (qd_zero.sml (by omega)) n (by omega) (by omega) w hv
  have e : pwC 0 n = 16 := by unfold pwC; rw [if_pos h2]; rfl
  rw [e, qT_err (by decide)] at k
  exact k
theorem power_zsome (n : Int) (h1 : -24 ≤ n) (h2 : n ≤ 24) (s : ByteArray) (hs : rq 0 = s) : ∃ t c, ∀ w, VarR w →
    Calls Tryz.prog 19 #[.string s, .int .i64 n] w (StE t c w) := by
  subst hs
  exact ⟨_, _, fun w hv => power_q 0 (qd_zero.sml (by omega)) n (by omega) (by omega) w hv⟩

set_option maxRecDepth 100000 in
set_option maxHeartbeats 3200000 in
theorem powers_fit (sa : ByteArray) (m n : Int) (hf : fitR 20 [sa] = false) (w : World) (hv : VarR w) :
    Calls Tryz.prog 10 #[.string sa, .int .i64 m, .int .i64 n] w fun e w' => e = .returned (.bool true) ∧ Below w.heap.size w w' := by
  have HAL := Lib.hid ralive_any
  have HV := Lib.hid hv
  have HF := Lib.hid (rfits_one 20 (by omega) sa false hf)
  clear hf hv
  go_enter Tryz.func10, Tryz.ntmps10
  go_wp2_with (first
    | (go_at_call 22; refine (HAL.out _ HV.out).mono ?_; rintro e w0 ⟨rfl, b0⟩; have B0 := Lib.hid b0; clear b0)
    | (go_at_call 34; refine (HF.out _ _).mono ?_; rintro e u0 ⟨rfl, b⟩; have D0 := Lib.hid (bt (bt B0.out ((Below.refl _ w0).alloc (Nat.le_refl _) _)) b); clear b))
  go_ret
  exact ⟨rfl, D0.out⟩
set_option maxRecDepth 100000 in
set_option maxHeartbeats 3200000 in
theorem powers_m1 (sa : ByteArray) (m n : Int) (hf : fitR 20 [sa] = true) (h : m < -12) (w : World) (hv : VarR w) :
    Calls Tryz.prog 10 #[.string sa, .int .i64 m, .int .i64 n] w fun e w' => e = .returned (.bool true) ∧ Below w.heap.size w w' := by
  have HAL := Lib.hid ralive_any
  have HV := Lib.hid hv
  have HF := Lib.hid (rfits_one 20 (by omega) sa true hf)
  clear hf hv
  go_enter Tryz.func10, Tryz.ntmps10
  go_wp2_with (first
    | (go_at_call 22; refine (HAL.out _ HV.out).mono ?_; rintro e w0 ⟨rfl, b0⟩; have B0 := Lib.hid b0; clear b0)
    | (go_at_call 34; refine (HF.out _ _).mono ?_; rintro e u0 ⟨rfl, b⟩; have D0 := Lib.hid (bt (bt B0.out ((Below.refl _ w0).alloc (Nat.le_refl _) _)) b); clear b))
  go_ret
  exact ⟨rfl, D0.out⟩
set_option maxRecDepth 100000 in
set_option maxHeartbeats 3200000 in
theorem powers_m2 (sa : ByteArray) (m n : Int) (hf : fitR 20 [sa] = true) (h : 12 < m) (w : World) (hv : VarR w) :
    Calls Tryz.prog 10 #[.string sa, .int .i64 m, .int .i64 n] w fun e w' => e = .returned (.bool true) ∧ Below w.heap.size w w' := by
  have HAL := Lib.hid ralive_any
  have HV := Lib.hid hv
  have HF := Lib.hid (rfits_one 20 (by omega) sa true hf)
  clear hf hv
  go_enter Tryz.func10, Tryz.ntmps10
  go_wp2_with (first
    | (go_at_call 22; refine (HAL.out _ HV.out).mono ?_; rintro e w0 ⟨rfl, b0⟩; have B0 := Lib.hid b0; clear b0)
    | (go_at_call 34; refine (HF.out _ _).mono ?_; rintro e u0 ⟨rfl, b⟩; have D0 := Lib.hid (bt (bt B0.out ((Below.refl _ w0).alloc (Nat.le_refl _) _)) b); clear b))
  go_ret
  exact ⟨rfl, D0.out⟩
set_option maxRecDepth 100000 in
set_option maxHeartbeats 3200000 in
theorem powers_n1 (sa : ByteArray) (m n : Int) (hf : fitR 20 [sa] = true) (h1 : -12 ≤ m) (h2 : m ≤ 12) (h : n < -12) (w : World) (hv : VarR w) :
    Calls Tryz.prog 10 #[.string sa, .int .i64 m, .int .i64 n] w fun e w' => e = .returned (.bool true) ∧ Below w.heap.size w w' := by
  have HAL := Lib.hid ralive_any
  have HV := Lib.hid hv
  have HF := Lib.hid (rfits_one 20 (by omega) sa true hf)
  clear hf hv
  go_enter Tryz.func10, Tryz.ntmps10
  go_wp2_with (first
    | (go_at_call 22; refine (HAL.out _ HV.out).mono ?_; rintro e w0 ⟨rfl, b0⟩; have B0 := Lib.hid b0; clear b0)
    | (go_at_call 34; refine (HF.out _ _).mono ?_; rintro e u0 ⟨rfl, b⟩; have D0 := Lib.hid (bt (bt B0.out ((Below.refl _ w0).alloc (Nat.le_refl _) _)) b); clear b))
  go_ret
  exact ⟨rfl, D0.out⟩
set_option maxRecDepth 100000 in
set_option maxHeartbeats 3200000 in
theorem powers_n2 (sa : ByteArray) (m n : Int) (hf : fitR 20 [sa] = true) (h1 : -12 ≤ m) (h2 : m ≤ 12) (h3 : -12 ≤ n) (h : 12 < n) (w : World) (hv : VarR w) :
    Calls Tryz.prog 10 #[.string sa, .int .i64 m, .int .i64 n] w fun e w' => e = .returned (.bool true) ∧ Below w.heap.size w w' := by
  have HAL := Lib.hid ralive_any
  have HV := Lib.hid hv
  have HF := Lib.hid (rfits_one 20 (by omega) sa true hf)
  clear hf hv
  go_enter Tryz.func10, Tryz.ntmps10
  go_wp2_with (first
    | (go_at_call 22; refine (HAL.out _ HV.out).mono ?_; rintro e w0 ⟨rfl, b0⟩; have B0 := Lib.hid b0; clear b0)
    | (go_at_call 34; refine (HF.out _ _).mono ?_; rintro e u0 ⟨rfl, b⟩; have D0 := Lib.hid (bt (bt B0.out ((Below.refl _ w0).alloc (Nat.le_refl _) _)) b); clear b))
  go_ret
  exact ⟨rfl, D0.out⟩
set_option maxRecDepth 100000 in
set_option maxHeartbeats 3200000 in
theorem powers_main (sa : ByteArray) (m n : Int) (q : Rat) (hq : QD 20 q) (h0 : q.num ≠ 0) (hs : rq q = sa) (hf : fitR 20 [sa] = true) (h1 : -12 ≤ m) (h2 : m ≤ 12) (h3 : -12 ≤ n) (h4 : n ≤ 12) (w : World) (hv : VarR w) :
    Calls Tryz.prog 10 #[.string sa, .int .i64 m, .int .i64 n] w fun e w' => e = .returned (.bool true) ∧ Below w.heap.size w w' := by
  have HAL := Lib.hid ralive_any
  have HV := Lib.hid hv
  have HF := Lib.hid (rfits_one 20 (by omega) sa true hf)
  obtain ⟨x, rx⟩ : ∃ r, rq (q ^ m) = r := ⟨_, rfl⟩
  obtain ⟨y, ry⟩ : ∃ r, rq (q ^ n) = r := ⟨_, rfl⟩
  obtain ⟨z, rz⟩ : ∃ r, rq (q ^ (m + n)) = r := ⟨_, rfl⟩
  obtain ⟨u, ru⟩ : ∃ r, rq (q ^ (-m)) = r := ⟨_, rfl⟩
  have hne : q ≠ 0 := num_ne h0
  have C1 := Lib.hid (power_small q hq sa hs m (by omega) (by omega) (.inl h0) _ rfl x rx)
  have C2 := Lib.hid (power_small q hq sa hs n (by omega) (by omega) (.inl h0) _ rfl y ry)
  have C3 := Lib.hid (power_small q hq sa hs (m + n) (by omega) (by omega) (.inl h0) _ rfl z rz)
  have C4 := Lib.hid (power_small q hq sa hs (-m) (by omega) (by omega) (.inl h0) _ rfl u ru)
  have Q1 := pwV_qd hq h1 h2 h0
  have Q2 := pwV_qd hq h3 h4 h0
  have Q3 := pwV_qd (n := -m) hq (by omega) (by omega) h0
  rw [pwV_zpow] at Q1 Q2 Q3
  have C5 := Lib.hid (o_rmul Q1 Q2 (by omega) (Rat.zpow_add hne m n).symm _ _ _ rx ry rz)
  have C6 := Lib.hid (o_rmul Q1 Q3 (by omega) (by rw [← Rat.zpow_add hne, Int.add_right_neg, Rat.zpow_zero]) _ _ _ rx ru rq_one)
  have bz : (sa.toList == [48]) = false := by rw [rq_is_zero q sa hs]; exact decide_eq_false hne
  clear hf hv hq h0 hs rx ry rz ru hne Q1 Q2 Q3
  clear q
  go_enter Tryz.func10, Tryz.ntmps10
  go_wp2_with (first
    | (go_at_call 22; refine (HAL.out _ HV.out).mono ?_; rintro e w0 ⟨rfl, b0⟩; have B0 := Lib.hid b0; clear b0)
    | (go_at_call 34; refine (HF.out _ _).mono ?_; rintro e u0 ⟨rfl, b⟩; have D0 := Lib.hid (bt (bt B0.out ((Below.refl _ w0).alloc (Nat.le_refl _) _)) b); clear b)
    | (go_at_call 19; (with_reducible refine (C1.out _ (HV.out.below D0.out)).mono ?_); rintro e u1 ⟨rfl, b⟩; have D1 := Lib.hid (bt D0.out b); clear b)
    | (go_at_call 19; (with_reducible refine (C2.out _ (HV.out.below D1.out)).mono ?_); rintro e u2 ⟨rfl, b⟩; have D2 := Lib.hid (bt D1.out b); clear b)
    | (go_at_call 19; (with_reducible refine (C3.out _ (HV.out.below D2.out)).mono ?_); rintro e u3 ⟨rfl, b⟩; have D3 := Lib.hid (bt D2.out b); clear b)
    | (go_at_call 19; (with_reducible refine (C4.out _ (HV.out.below D3.out)).mono ?_); rintro e u4 ⟨rfl, b⟩; have D4 := Lib.hid (bt D3.out b); clear b)
    | (go_at_call 35; (with_reducible refine (C5.out _ (HV.out.below D4.out)).mono ?_); rintro e u5 ⟨rfl, b⟩; have D5 := Lib.hid (bt D4.out b); clear b)
    | (go_at_call 35; (with_reducible refine (C6.out _ (HV.out.below D5.out)).mono ?_); rintro e u6 ⟨rfl, b⟩; have D6 := Lib.hid (bt D5.out b); clear b))
  go_ret
  exact ⟨rfl, D6.out⟩
set_option maxRecDepth 100000 in
set_option maxHeartbeats 3200000 in
theorem powers_nn (sa : ByteArray) (m n : Int) (hs : rq 0 = sa) (hf : fitR 20 [sa] = true) (h1 : -12 ≤ m) (h2 : m ≤ 12) (h3 : -12 ≤ n) (h4 : n ≤ 12) (hm : m < 0) (hn : n < 0) (w : World) (hv : VarR w) :
    Calls Tryz.prog 10 #[.string sa, .int .i64 m, .int .i64 n] w fun e w' => e = .returned (.bool true) ∧ Below w.heap.size w w' := by
  have HAL := Lib.hid ralive_any
  have HV := Lib.hid hv
  have HF := Lib.hid (rfits_one 20 (by omega) sa true hf)
  have C1 := Lib.hid (power_zneg m (by omega) hm sa hs)
  have C2 := Lib.hid (power_zneg n (by omega) hn sa hs)
  obtain ⟨z, c, C3'⟩ := power_zsome (m + n) (by omega) (by omega) sa hs
  have C3 := Lib.hid C3'
  have bz : (sa.toList == [48]) = true := by rw [rq_is_zero 0 sa hs]; exact decide_eq_true rfl
  have dm : decide (m < 0) = true := decide_eq_true (by omega)
  have dn : decide (n < 0) = true := decide_eq_true (by omega)
  clear hf hv C3' hs
  go_enter Tryz.func10, Tryz.ntmps10
  go_wp2_with (first
    | (go_at_call 22; refine (HAL.out _ HV.out).mono ?_; rintro e w0 ⟨rfl, b0⟩; have B0 := Lib.hid b0; clear b0)
    | (go_at_call 34; refine (HF.out _ _).mono ?_; rintro e u0 ⟨rfl, b⟩; have D0 := Lib.hid (bt (bt B0.out ((Below.refl _ w0).alloc (Nat.le_refl _) _)) b); clear b)
    | (go_at_call 19; (with_reducible refine (C1.out _ (HV.out.below D0.out)).mono ?_); rintro e u1 ⟨rfl, b⟩; have D1 := Lib.hid (bt D0.out b); clear b)
    | (go_at_call 19; (with_reducible refine (C2.out _ (HV.out.below D1.out)).mono ?_); rintro e u2 ⟨rfl, b⟩; have D2 := Lib.hid (bt D1.out b); clear b)
    | (go_at_call 19; (with_reducible refine (C3.out _ (HV.out.below D2.out)).mono ?_); rintro e u3 ⟨rfl, b⟩; have D3 := Lib.hid (bt D2.out b); clear b))
  go_ret
  exact ⟨rfl, D3.out⟩
set_option maxRecDepth 100000 in
set_option maxHeartbeats 3200000 in
theorem powers_np (sa : ByteArray) (m n : Int) (hs : rq 0 = sa) (hf : fitR 20 [sa] = true) (h1 : -12 ≤ m) (h2 : m ≤ 12) (h3 : -12 ≤ n) (h4 : n ≤ 12) (hm : m < 0) (hn : 0 ≤ n) (w : World) (hv : VarR w) :
    Calls Tryz.prog 10 #[.string sa, .int .i64 m, .int .i64 n] w fun e w' => e = .returned (.bool true) ∧ Below w.heap.size w w' := by
  have HAL := Lib.hid ralive_any
  have HV := Lib.hid hv
  have HF := Lib.hid (rfits_one 20 (by omega) sa true hf)
  have C1 := Lib.hid (power_zneg m (by omega) hm sa hs)
  have C2 := Lib.hid (power_small 0 (qd_zero.mono (by omega)) sa hs n (by omega) (by omega) (.inr hn) _ rfl _ rfl)
  generalize rq (0 ^ n) = y at C2
  obtain ⟨z, c, C3'⟩ := power_zsome (m + n) (by omega) (by omega) sa hs
  have C3 := Lib.hid C3'
  have bz : (sa.toList == [48]) = true := by rw [rq_is_zero 0 sa hs]; exact decide_eq_true rfl
  have dm : decide (m < 0) = true := decide_eq_true (by omega)
  have dn : decide (n < 0) = false := decide_eq_false (by omega)
  clear hf hv C3' hs
  go_enter Tryz.func10, Tryz.ntmps10
  go_wp2_with (first
    | (go_at_call 22; refine (HAL.out _ HV.out).mono ?_; rintro e w0 ⟨rfl, b0⟩; have B0 := Lib.hid b0; clear b0)
    | (go_at_call 34; refine (HF.out _ _).mono ?_; rintro e u0 ⟨rfl, b⟩; have D0 := Lib.hid (bt (bt B0.out ((Below.refl _ w0).alloc (Nat.le_refl _) _)) b); clear b)
    | (go_at_call 19; (with_reducible refine (C1.out _ (HV.out.below D0.out)).mono ?_); rintro e u1 ⟨rfl, b⟩; have D1 := Lib.hid (bt D0.out b); clear b)
    | (go_at_call 19; (with_reducible refine (C2.out _ (HV.out.below D1.out)).mono ?_); rintro e u2 ⟨rfl, b⟩; have D2 := Lib.hid (bt D1.out b); clear b)
    | (go_at_call 19; (with_reducible refine (C3.out _ (HV.out.below D2.out)).mono ?_); rintro e u3 ⟨rfl, b⟩; have D3 := Lib.hid (bt D2.out b); clear b))
  go_ret
  exact ⟨rfl, D3.out⟩
set_option maxRecDepth 100000 in
set_option maxHeartbeats 3200000 in
theorem powers_zn (sa : ByteArray) (m n : Int) (hs : rq 0 = sa) (hf : fitR 20 [sa] = true) (h1 : -12 ≤ m) (h2 : m ≤ 12) (h3 : -12 ≤ n) (h4 : n ≤ 12) (hm : m = 0) (hn : n < 0) (w : World) (hv : VarR w) :
    Calls Tryz.prog 10 #[.string sa, .int .i64 m, .int .i64 n] w fun e w' => e = .returned (.bool true) ∧ Below w.heap.size w w' := by
  subst hm
  have HAL := Lib.hid ralive_any
  have HV := Lib.hid hv
  have HF := Lib.hid (rfits_one 20 (by omega) sa true hf)
  have C1 := Lib.hid (power_small 0 (qd_zero.mono (by omega)) sa hs 0 (by omega) (by omega) (.inr (by omega)) 1 rfl _ rq_one)
  have C2 := Lib.hid (power_zneg n (by omega) hn sa hs)
  obtain ⟨z, c, C3'⟩ := power_zsome n (by omega) (by omega) sa hs
  have C3 := Lib.hid C3'
  have bz : (sa.toList == [48]) = true := by rw [rq_is_zero 0 sa hs]; exact decide_eq_true rfl
  have dn : decide (n < 0) = true := decide_eq_true (by omega)
  clear hf hv C3' hs
  go_enter Tryz.func10, Tryz.ntmps10
  go_wp2_with (first
    | (go_at_call 22; refine (HAL.out _ HV.out).mono ?_; rintro e w0 ⟨rfl, b0⟩; have B0 := Lib.hid b0; clear b0)
    | (go_at_call 34; refine (HF.out _ _).mono ?_; rintro e u0 ⟨rfl, b⟩; have D0 := Lib.hid (bt (bt B0.out ((Below.refl _ w0).alloc (Nat.le_refl _) _)) b); clear b)
    | (go_at_call 19; (with_reducible refine (C1.out _ (HV.out.below D0.out)).mono ?_); rintro e u1 ⟨rfl, b⟩; have D1 := Lib.hid (bt D0.out b); clear b)
    | (go_at_call 19; (with_reducible refine (C2.out _ (HV.out.below D1.out)).mono ?_); rintro e u2 ⟨rfl, b⟩; have D2 := Lib.hid (bt D1.out b); clear b)
    | (go_at_call 19; (with_reducible refine (C3.out _ (HV.out.below D2.out)).mono ?_); rintro e u3 ⟨rfl, b⟩; have D3 := Lib.hid (bt D2.out b); clear b))
  go_ret
  exact ⟨rfl, D3.out⟩
set_option maxRecDepth 100000 in
set_option maxHeartbeats 3200000 in
theorem powers_zp (sa : ByteArray) (m n : Int) (hs : rq 0 = sa) (hf : fitR 20 [sa] = true) (h1 : -12 ≤ m) (h2 : m ≤ 12) (h3 : -12 ≤ n) (h4 : n ≤ 12) (hm : m = 0) (hn : 0 ≤ n) (w : World) (hv : VarR w) :
    Calls Tryz.prog 10 #[.string sa, .int .i64 m, .int .i64 n] w fun e w' => e = .returned (.bool true) ∧ Below w.heap.size w w' := by
  subst hm
  have HAL := Lib.hid ralive_any
  have HV := Lib.hid hv
  have HF := Lib.hid (rfits_one 20 (by omega) sa true hf)
  have C1 := Lib.hid (power_small 0 (qd_zero.mono (by omega)) sa hs 0 (by omega) (by omega) (.inr (by omega)) 1 rfl _ rq_one)
  have C2 := Lib.hid (power_small 0 (qd_zero.mono (by omega)) sa hs n (by omega) (by omega) (.inr hn) _ rfl _ rfl)
  generalize rq (0 ^ n) = y at C2
  obtain ⟨z, c, C3'⟩ := power_zsome n (by omega) (by omega) sa hs
  have C3 := Lib.hid C3'
  have bz : (sa.toList == [48]) = true := by rw [rq_is_zero 0 sa hs]; exact decide_eq_true rfl
  have dn : decide (n < 0) = false := decide_eq_false (by omega)
  clear hf hv C3' hs
  go_enter Tryz.func10, Tryz.ntmps10
  go_wp2_with (first
    | (go_at_call 22; refine (HAL.out _ HV.out).mono ?_; rintro e w0 ⟨rfl, b0⟩; have B0 := Lib.hid b0; clear b0)
    | (go_at_call 34; refine (HF.out _ _).mono ?_; rintro e u0 ⟨rfl, b⟩; have D0 := Lib.hid (bt (bt B0.out ((Below.refl _ w0).alloc (Nat.le_refl _) _)) b); clear b)
    | (go_at_call 19; (with_reducible refine (C1.out _ (HV.out.below D0.out)).mono ?_); rintro e u1 ⟨rfl, b⟩; have D1 := Lib.hid (bt D0.out b); clear b)
    | (go_at_call 19; (with_reducible refine (C2.out _ (HV.out.below D1.out)).mono ?_); rintro e u2 ⟨rfl, b⟩; have D2 := Lib.hid (bt D1.out b); clear b)
    | (go_at_call 19; (with_reducible refine (C3.out _ (HV.out.below D2.out)).mono ?_); rintro e u3 ⟨rfl, b⟩; have D3 := Lib.hid (bt D2.out b); clear b))
  go_ret
  exact ⟨rfl, D3.out⟩
set_option maxRecDepth 100000 in
set_option maxHeartbeats 3200000 in
theorem powers_pn (sa : ByteArray) (m n : Int) (hs : rq 0 = sa) (hf : fitR 20 [sa] = true) (h1 : -12 ≤ m) (h2 : m ≤ 12) (h3 : -12 ≤ n) (h4 : n ≤ 12) (hm : 0 < m) (hn : n < 0) (w : World) (hv : VarR w) :
    Calls Tryz.prog 10 #[.string sa, .int .i64 m, .int .i64 n] w fun e w' => e = .returned (.bool true) ∧ Below w.heap.size w w' := by
  have HAL := Lib.hid ralive_any
  have HV := Lib.hid hv
  have HF := Lib.hid (rfits_one 20 (by omega) sa true hf)
  have C1 := Lib.hid (power_small 0 (qd_zero.mono (by omega)) sa hs m (by omega) (by omega) (.inr (by omega)) 0 (zero_zpow hm) _ rq_zero)
  have C2 := Lib.hid (power_zneg n (by omega) hn sa hs)
  obtain ⟨z, c, C3'⟩ := power_zsome (m + n) (by omega) (by omega) sa hs
  have C3 := Lib.hid C3'
  have bz : (sa.toList == [48]) = true := by rw [rq_is_zero 0 sa hs]; exact decide_eq_true rfl
  have dm : decide (m < 0) = false := decide_eq_false (by omega)
  have dn : decide (n < 0) = true := decide_eq_true (by omega)
  have em : (m == 0) = false := by rw [beq_eq_false_iff_ne]; omega
  clear hf hv C3' hs
  go_enter Tryz.func10, Tryz.ntmps10
  go_wp2_with (first
    | (go_at_call 22; refine (HAL.out _ HV.out).mono ?_; rintro e w0 ⟨rfl, b0⟩; have B0 := Lib.hid b0; clear b0)
    | (go_at_call 34; refine (HF.out _ _).mono ?_; rintro e u0 ⟨rfl, b⟩; have D0 := Lib.hid (bt (bt B0.out ((Below.refl _ w0).alloc (Nat.le_refl _) _)) b); clear b)
    | (go_at_call 19; (with_reducible refine (C1.out _ (HV.out.below D0.out)).mono ?_); rintro e u1 ⟨rfl, b⟩; have D1 := Lib.hid (bt D0.out b); clear b)
    | (go_at_call 19; (with_reducible refine (C2.out _ (HV.out.below D1.out)).mono ?_); rintro e u2 ⟨rfl, b⟩; have D2 := Lib.hid (bt D1.out b); clear b)
    | (go_at_call 19; (with_reducible refine (C3.out _ (HV.out.below D2.out)).mono ?_); rintro e u3 ⟨rfl, b⟩; have D3 := Lib.hid (bt D2.out b); clear b))
  go_ret
  exact ⟨rfl, D3.out⟩
set_option maxRecDepth 100000 in
set_option maxHeartbeats 3200000 in
theorem powers_pp (sa : ByteArray) (m n : Int) (hs : rq 0 = sa) (hf : fitR 20 [sa] = true) (h1 : -12 ≤ m) (h2 : m ≤ 12) (h3 : -12 ≤ n) (h4 : n ≤ 12) (hm : 0 < m) (hn : 0 ≤ n) (w : World) (hv : VarR w) :
    Calls Tryz.prog 10 #[.string sa, .int .i64 m, .int .i64 n] w fun e w' => e = .returned (.bool true) ∧ Below w.heap.size w w' := by
  have HAL := Lib.hid ralive_any
  have HV := Lib.hid hv
  have HF := Lib.hid (rfits_one 20 (by omega) sa true hf)
  have C1 := Lib.hid (power_small 0 (qd_zero.mono (by omega)) sa hs m (by omega) (by omega) (.inr (by omega)) 0 (zero_zpow hm) _ rq_zero)
  have C2 := Lib.hid (power_small 0 (qd_zero.mono (by omega)) sa hs n (by omega) (by omega) (.inr hn) _ rfl _ rfl)
  generalize rq (0 ^ n) = y at C2
  obtain ⟨z, c, C3'⟩ := power_zsome (m + n) (by omega) (by omega) sa hs
  have C3 := Lib.hid C3'
  have bz : (sa.toList == [48]) = true := by rw [rq_is_zero 0 sa hs]; exact decide_eq_true rfl
  have dm : decide (m < 0) = false := decide_eq_false (by omega)
  have dn : decide (n < 0) = false := decide_eq_false (by omega)
  have em : (m == 0) = false := by rw [beq_eq_false_iff_ne]; omega
  clear hf hv C3' hs
  go_enter Tryz.func10, Tryz.ntmps10
  go_wp2_with (first
    | (go_at_call 22; refine (HAL.out _ HV.out).mono ?_; rintro e w0 ⟨rfl, b0⟩; have B0 := Lib.hid b0; clear b0)
    | (go_at_call 34; refine (HF.out _ _).mono ?_; rintro e u0 ⟨rfl, b⟩; have D0 := Lib.hid (bt (bt B0.out ((Below.refl _ w0).alloc (Nat.le_refl _) _)) b); clear b)
    | (go_at_call 19; (with_reducible refine (C1.out _ (HV.out.below D0.out)).mono ?_); rintro e u1 ⟨rfl, b⟩; have D1 := Lib.hid (bt D0.out b); clear b)
    | (go_at_call 19; (with_reducible refine (C2.out _ (HV.out.below D1.out)).mono ?_); rintro e u2 ⟨rfl, b⟩; have D2 := Lib.hid (bt D1.out b); clear b)
    | (go_at_call 19; (with_reducible refine (C3.out _ (HV.out.below D2.out)).mono ?_); rintro e u3 ⟨rfl, b⟩; have D3 := Lib.hid (bt D2.out b); clear b))
  go_ret
  exact ⟨rfl, D3.out⟩
theorem powers_law (sa : ByteArray) (m n : Int) (_ : -9223372036854775808 ≤ m) (_ : m ≤ 9223372036854775807) (_ : -9223372036854775808 ≤ n) (_ : n ≤ 9223372036854775807) (w : World) (hv : VarR w) :
    Calls Tryz.prog 10 #[.string sa, .int .i64 m, .int .i64 n] w fun e w' => e = .returned (.bool true) ∧ Below w.heap.size w w' := by
  by_cases hf : fitR 20 [sa] = true
  · by_cases hm1 : m < -12
    · exact powers_m1 sa m n hf hm1 w hv
    by_cases hm2 : 12 < m
    · exact powers_m2 sa m n hf hm2 w hv
    by_cases hn1 : n < -12
    · exact powers_n1 sa m n hf (by omega) (by omega) hn1 w hv
    by_cases hn2 : 12 < n
    · exact powers_n2 sa m n hf (by omega) (by omega) (by omega) hn2 w hv
    obtain ⟨i1, j1⟩ := rfit_one hf
    obtain ⟨q, hs, hq⟩ := qd_of j1 i1 (by omega)
    by_cases h0 : q.num = 0
    · obtain rfl : q = 0 := Rat.num_eq_zero.1 h0
      by_cases hn : n < 0
      · rcases Int.lt_trichotomy m 0 with h | h | h
        · exact powers_nn sa m n hs hf (by omega) (by omega) (by omega) (by omega) h hn w hv
        · exact powers_zn sa m n hs hf (by omega) (by omega) (by omega) (by omega) h hn w hv
        · exact powers_pn sa m n hs hf (by omega) (by omega) (by omega) (by omega) h hn w hv
      · rcases Int.lt_trichotomy m 0 with h | h | h
        · exact powers_np sa m n hs hf (by omega) (by omega) (by omega) (by omega) h (by omega) w hv
        · exact powers_zp sa m n hs hf (by omega) (by omega) (by omega) (by omega) h (by omega) w hv
        · exact powers_pp sa m n hs hf (by omega) (by omega) (by omega) (by omega) h (by omega) w hv
    · exact powers_main sa m n q hq h0 hs hf (by omega) (by omega) (by omega) (by omega) w hv
  · exact powers_fit sa m n (by simpa using hf) w hv
end Go.Proofs.YtgjhgkglfflmjaaGreatDoor

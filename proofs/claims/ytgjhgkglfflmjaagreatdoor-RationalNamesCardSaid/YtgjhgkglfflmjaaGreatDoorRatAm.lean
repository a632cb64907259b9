/- The reference of layer 2: what Round answers; Great of two. -/
import Derived.Test.YtgjhgkglfflmjaaGreatDoorRatAl
namespace Go.Proofs.YtgjhgkglfflmjaaGreatDoor
open Go Go.RowKit

theorem rep_two : rep 2 = ⟨#[50]⟩ := by decide +kernel
theorem rep_one' : rep 1 = ⟨#[49]⟩ := by decide +kernel
theorem rep_not_nil (z : Int) : ((rep z).toList == []) = false := rq_ne (z : Rat) _ (rq_int z)
theorem two_lim : (2 : Int).natAbs < lim := Nat.lt_of_lt_of_le (by decide) (le_lim 1 (by omega))
theorem one_lim : (1 : Int).natAbs < lim := Nat.lt_of_lt_of_le (by decide) (le_lim 1 (by omega))
theorem cmpN_half (r d : Nat) : cmpN (2 * r) d = cmpZ (r : Int) ((d : Int) - r) := by
  unfold cmpN cmpZ
  split <;> split <;> (try split) <;> (try split) <;> omega
theorem rep_sign (z : Int) : ∃ h0 : 0 < (rep z).size, (((rep z)[0].toNat : Int) == 45) = decide (z < 0) := by
  by_cases h : z < 0
  · obtain ⟨⟨q0, q1⟩, _⟩ := rep_neg_byte z h _ _ rfl rfl
    exact ⟨q0, by rw [decide_eq_true h]; exact q1⟩
  · obtain ⟨q0, q1⟩ := rep_pos_byte z (by omega) _ rfl
    exact ⟨q0, by rw [decide_eq_false h]; exact q1⟩
theorem rndQ_up {m : Nat} {q : Rat} (h0 : ¬ q.num % q.den = 0) (h : rndUp m q = true) : rep (rndQ m q) = rep (q.num / q.den + 1) := by unfold rndQ; rw [if_neg h0, if_pos h]
theorem rndQ_stay {m : Nat} {q : Rat} (h0 : ¬ q.num % q.den = 0) (h : rndUp m q = false) : rep (rndQ m q) = rep (q.num / q.den) := by unfold rndQ; rw [if_neg h0, if_neg (by rw [h]; decide)]
set_option maxHeartbeats 3200000 in
theorem refRound_q (q : Rat) (hq : Sml q) (k : Nat) (hk : k ≤ 4) (w : World) :
    Calls Tryz.prog 33 #[.string (rq q), .int .u8 k] w (StE (rep (rndQ k q)) 0 w) := by
  obtain ⟨l1, l2, l3⟩ := rnd_lims hq
  have hd := q.den_pos
  have H1 := rcheck_q hq
  have H2 := rwritten_q hq
  have H3 := fun W => refdm_rep hq.1 hq.2 (den_ne q) rfl rfl _ _ _ _ rfl rfl rfl rfl W
  by_cases hz : q.num % q.den = 0
  · rw [show rndQ k q = q.num / q.den by unfold rndQ; rw [if_pos hz]]
    exact rr_zero _ _ _ _ _ k (by omega) (by omega) w H1 H2 H3 (by rw [rep_is_zero]; exact decide_eq_true hz)
  have hz' : ((rep (q.num % q.den)).toList == [48]) = false := by rw [rep_is_zero]; exact decide_eq_false hz
  obtain ⟨n0, n1⟩ := rep_sign q.num
  have n2 : (((rep q.num)[0].toNat : Int) != 45) = !decide (q.num < 0) := by unfold bne; rw [n1]
  have h0r : 0 ≤ q.num % q.den := Int.emod_nonneg _ (den_ne q)
  have hrd : q.num % q.den < q.den := Int.emod_lt_of_pos _ (by omega)
  have H4 : ∀ W, Calls Tryz.prog 57 #[.string ⟨#[50]⟩, .string (rep (q.num % q.den))] W (StE (lT (2 * (q.num % q.den))) (lC (2 * (q.num % q.den))) W) := fun W => by
    rw [← rep_two]; exact refmul_l two_lim l2 rfl W
  have H6 : ∀ W, Calls Tryz.prog 69 #[.string (rep (q.den : Int))] W (DgV q.den W) :=
    digits2_any _ (chk_of_abs hq.2) (rep_small hq.2) _ (by rw [rep_data, num_itoa]; rfl)
  have H7 : ∀ W, Calls Tryz.prog 56 #[.string (rep (q.num / q.den)), .string ⟨#[49]⟩] W (StE (rep (q.num / q.den + 1)) 0 W) := fun W => by
    have hl : LB (q.num / q.den + 1) = true := LB_true.2 (Nat.lt_of_le_of_lt (floor_up (by omega) hz) hq.1)
    have h := refadd_l l1 one_lim rfl W
    rw [lT_ok hl, lC_ok hl, rep_one'] at h
    exact h
  have H8 : ∀ o, decide ((q.num / q.den) % 2 = 1) = o → ∀ W, Calls Tryz.prog 69 #[.string (rep (q.num / q.den))] W (DgF o W) := fun o ho =>
    digits2_first _ (chk_of_abs l1) (rep_small l1) _ (by rw [rep_data, num_itoa]; exact ho)
  have KU : k = 4 → rndUp k q = false := fun h => by subst h; rfl
  have K0 : rndUp 0 q = decide (q.num < 0) := rfl
  have K1 : rndUp 1 q = !decide (q.num < 0) := rfl
  have K2 : rndUp 2 q = (decide (0 < cmpZ (q.num % q.den) (q.den - q.num % q.den)) || (decide (cmpZ (q.num % q.den) (q.den - q.num % q.den) = 0) && !decide (q.num < 0))) := rfl
  have K3 : rndUp 3 q = (decide (0 < cmpZ (q.num % q.den) (q.den - q.num % q.den)) || (decide (cmpZ (q.num % q.den) (q.den - q.num % q.den) = 0) && decide ((q.num / q.den) % 2 = 1))) := rfl
  have U := fun m => rndQ_up (m := m) (q := q) hz
  have S := fun m => rndQ_stay (m := m) (q := q) hz
  have hk' : k = 0 ∨ k = 1 ∨ k = 2 ∨ k = 3 ∨ k = 4 := by omega
  cases hl : LB (2 * (q.num % q.den))
  · have ht : ((lT (2 * (q.num % q.den))).toList == []) = true := by unfold lT; rw [if_neg (by rw [hl]; decide), Lib.toList_data]; rfl
    have H5 : ∀ W, Calls Tryz.prog 69 #[.string (lT (2 * (q.num % q.den)))] W (DgV 0 W) := fun W => by
      unfold lT; rw [if_neg (by rw [hl]; decide)]; exact digits2_nil W
    have hc : cmpZ (q.num % q.den) (q.den - q.num % q.den) = 1 := by
      have h1 := LB_false hl
      have h2 := hq.2
      unfold cmpZ
      rw [if_neg (by omega), if_pos (by omega)]
    rw [hc] at K2 K3
    rcases hk' with rfl | rfl | rfl | rfl | rfl
    · cases hg : decide (q.num < 0) <;> rw [hg] at n1 K0
      · rw [S 0 K0]; exact rr_0_p_o _ _ _ _ _ _ _ _ _ _ w H1 H2 H3 hz' H4 H5 H6 rfl ht n0 n1
      · rw [U 0 K0]; exact rr_0_n_o _ _ _ _ _ _ _ _ _ _ _ w H1 H2 H3 hz' H4 H5 H6 rfl ht H7 n0 n1
    · cases hg : decide (q.num < 0) <;> rw [hg] at n1 n2 K1
      · rw [U 1 K1]; exact rr_1_p_o _ _ _ _ _ _ _ _ _ _ _ w H1 H2 H3 hz' H4 H5 H6 rfl ht H7 n0 n2
      · rw [S 1 K1]; exact rr_1_n_o _ _ _ _ _ _ _ _ _ _ w H1 H2 H3 hz' H4 H5 H6 rfl ht n0 n2
    · rw [U 2 (K2.trans (by simp))]; exact rr_2_o _ _ _ _ _ _ _ _ _ _ _ w H1 H2 H3 hz' H4 H5 H6 rfl ht H7
    · rw [U 3 (K3.trans (by simp))]; exact rr_3_o _ _ _ _ _ _ _ _ _ _ _ w H1 H2 H3 hz' H4 H5 H6 rfl ht H7
    · rw [S 4 rfl]; exact rr_4 _ _ _ _ _ w H1 H2 H3 hz'
  · have ht : ((lT (2 * (q.num % q.den))).toList == []) = false := by rw [lT_ok hl]; exact rep_not_nil _
    have hl2 := LB_true.1 hl
    obtain ⟨r, hr⟩ := Int.eq_ofNat_of_zero_le h0r
    have H5 : ∀ W, Calls Tryz.prog 69 #[.string (lT (2 * (q.num % q.den)))] W (DgV (2 * r) W) := fun W => by
      rw [lT_ok hl]; exact digits2_any _ (chk_of_abs hl2) (rep_small hl2) _ (by rw [rep_data, num_itoa]; omega) W
    have hh : cmpN (2 * r) q.den = cmpZ (q.num % q.den) (q.den - q.num % q.den) := by rw [cmpN_half r q.den, ← hr]
    have h3 := cmp_three (q.num % q.den) (q.den - q.num % q.den)
    generalize cmpZ (q.num % q.den) (q.den - q.num % q.den) = c at *
    rcases hk' with rfl | rfl | rfl | rfl | rfl
    · cases hg : decide (q.num < 0) <;> rw [hg] at n1 K0
      · rw [S 0 K0]; exact rr_0_p_f _ _ _ _ _ _ _ _ _ _ w H1 H2 H3 hz' H4 H5 H6 hh ht n0 n1
      · rw [U 0 K0]; exact rr_0_n_f _ _ _ _ _ _ _ _ _ _ _ w H1 H2 H3 hz' H4 H5 H6 hh ht H7 n0 n1
    · cases hg : decide (q.num < 0) <;> rw [hg] at n1 n2 K1
      · rw [U 1 K1]; exact rr_1_p_f _ _ _ _ _ _ _ _ _ _ _ w H1 H2 H3 hz' H4 H5 H6 hh ht H7 n0 n2
      · rw [S 1 K1]; exact rr_1_n_f _ _ _ _ _ _ _ _ _ _ w H1 H2 H3 hz' H4 H5 H6 hh ht n0 n2
    · rcases h3 with rfl | rfl | rfl
      · rw [S 2 (K2.trans (by simp))]; exact rr_2_m _ _ _ _ _ _ _ _ _ w H1 H2 H3 hz' H4 H5 H6 hh ht
      · cases hg : decide (q.num < 0) <;> rw [hg] at n1 n2 K2
        · rw [U 2 (K2.trans (by simp))]; exact rr_2_p _ _ _ _ _ _ _ _ _ _ w H1 H2 H3 hz' H4 H5 H6 hh ht H7 n0 n2
        · rw [S 2 (K2.trans (by simp))]; exact rr_2_n _ _ _ _ _ _ _ _ _ w H1 H2 H3 hz' H4 H5 H6 hh ht n0 n2
      · rw [U 2 (K2.trans (by simp))]; exact rr_2_u _ _ _ _ _ _ _ _ _ _ w H1 H2 H3 hz' H4 H5 H6 hh ht H7
    · rcases h3 with rfl | rfl | rfl
      · rw [S 3 (K3.trans (by simp))]; exact rr_3_m _ _ _ _ _ _ _ _ _ w H1 H2 H3 hz' H4 H5 H6 hh ht
      · cases ho : decide ((q.num / q.den) % 2 = 1) <;> rw [ho] at K3
        · rw [S 3 (K3.trans (by simp))]; exact rr_3_f _ _ _ _ _ _ _ _ _ w H1 H2 H3 hz' H4 H5 H6 hh ht (H8 _ ho)
        · rw [U 3 (K3.trans (by simp))]; exact rr_3_t _ _ _ _ _ _ _ _ _ _ w H1 H2 H3 hz' H4 H5 H6 hh ht H7 (H8 _ ho)
      · rw [U 3 (K3.trans (by simp))]; exact rr_3_u _ _ _ _ _ _ _ _ _ _ w H1 H2 H3 hz' H4 H5 H6 hh ht H7
    · rw [S 4 rfl]; exact rr_4 _ _ _ _ _ w H1 H2 H3 hz'
theorem refRound_any (s : ByteArray) (hs : s.size ≤ 1048576) (m : Int) (h0 : 0 ≤ m) (h255 : m ≤ 255) (w : World) :
    Calls Tryz.prog 33 #[.string s, .int .u8 m] w (StE (roT m s.data.toList) (roC m s.data.toList) w) := by
  unfold roT roC
  by_cases h5 : 5 ≤ m
  · rw [if_pos h5, if_neg (by decide)]
    exact rr_mode s m h5 h255 w
  rw [if_neg h5]
  rcases text_cases s with h1 | ⟨q, rfl, hq⟩
  · rw [if_neg h1]
    exact rr_check s m _ h0 (by omega) h1 w (refRCheck_any s hs)
  rw [rq_chk hq, if_pos rfl, qv_rq]
  obtain ⟨k, rfl⟩ := Int.eq_ofNat_of_zero_le h0
  exact refRound_q q hq k (by omega) w
/-- Great's answer. -/
def grt2 (ss : List ByteArray) : Bool := ss.any fun s => 2100 < s.size
theorem grt2_succ (ss : List ByteArray) (k : Nat) (h : k < ss.length) (ha : grt2 (ss.take k) = false) (hc : ¬ 2100 < ss[k].size) : grt2 (ss.take (k + 1)) = false := by
  unfold grt2 at *
  rw [take_snoc ss k h, List.any_append, ha]
  simpa using hc
theorem grt2_true (ss : List ByteArray) (k : Nat) (h : k < ss.length) (hc : 2100 < ss[k].size) : grt2 ss = true := by
  unfold grt2
  rw [List.any_eq_true]
  exact ⟨ss[k], List.getElem_mem h, by simpa using hc⟩
theorem grt2_all (ss : List ByteArray) (ha : grt2 (ss.take ss.length) = false) : grt2 ss = false := by
  rwa [List.take_of_length_le (Nat.le_refl _)] at ha
set_option maxHeartbeats 400000 in
theorem great2_any (A : Option Addr) (c : Nat) (ss : List ByteArray) (w : World) (hA : SlA Value.string w A ss) (hs : ss.length ≤ maxLen) :
    Calls Tryz.prog 23 #[.slice A ss.length c] w fun e w' => e = .returned (.bool (grt2 ss)) ∧ w = w' := by
  unfold maxLen at hs
  go_enter Tryz.func23, Tryz.ntmps23
  go_wp2
  go_loop [3] (fun i => ∃ k : Nat, k ≤ ss.length ∧ i = .int .i64 k ∧ grt2 (ss.take k) = false) (fun i => ss.length - (intOf i).toNat)
  case atStart => exact ⟨0, Nat.zero_le _, rfl, rfl⟩
  case round =>
    obtain ⟨k, hk, rfl, hall⟩ := hrel
    by_cases hlt : k < ss.length
    · obtain ⟨b, o, rfl, hb, hc⟩ := hA.get hlt
      clear hA
      obtain ⟨s, hse⟩ : ∃ s, ss[k] = s := ⟨_, rfl⟩
      rw [hse] at hc
      by_cases hd : 2100 < s.size
      · have H := Lib.hid (grt2_true ss k hlt (by rw [hse]; exact hd))
        clear hall hse
        go_wp2
        go_ret
        exact ⟨ret_bool H.out.symm, rfl⟩
      · have H := Lib.hid (grt2_succ ss k hlt hall (by rw [hse]; exact hd))
        clear hall hse
        go_wp2
        go_round
        case rel => exact ⟨k + 1, by omega, by go_num, H.out⟩
        case measure => simp [intOf]; omega
    · obtain rfl : k = ss.length := by omega
      have H := Lib.hid (grt2_all ss hall)
      clear hall
      go_wp2
      go_ret
      exact ⟨ret_bool H.out.symm, rfl⟩
theorem great2_two (s t : ByteArray) (r : Bool) (hr : (decide (2100 < s.size) || decide (2100 < t.size)) = r) (w : World) (ty : TypeId) :
    Calls Tryz.prog 23 #[.slice (some ⟨w.heap.size, 0, none⟩) 2 2] (w.alloc (.cells #[.string s, .string t] ty)) fun e w' => e = .returned (.bool r) ∧ w.alloc (.cells #[.string s, .string t] ty) = w' := by
  have h := great2_any (some ⟨w.heap.size, 0, none⟩) 2 [s, t] (w.alloc (.cells #[.string s, .string t] ty)) (SlA.of_cells (heap_alloc_new w _) rfl) (by unfold maxLen; simp)
  have e : grt2 [s, t] = r := by rw [← hr]; simp [grt2]
  rw [e] at h
  exact h
theorem great2_this (s : ByteArray) (r : Bool) (hr : decide (2100 < s.size) = r) (w : World) (ty : TypeId) :
    Calls Tryz.prog 23 #[.slice (some ⟨w.heap.size, 0, none⟩) 1 1] (w.alloc (.cells #[.string s] ty)) fun e w' => e = .returned (.bool r) ∧ w.alloc (.cells #[.string s] ty) = w' := by
  have h := great2_any (some ⟨w.heap.size, 0, none⟩) 1 [s] (w.alloc (.cells #[.string s] ty)) (SlA.of_cells (heap_alloc_new w _) rfl) (by unfold maxLen; simp)
  have e : grt2 [s] = r := by rw [← hr]; simp [grt2]
  rw [e] at h
  exact h
end Go.Proofs.YtgjhgkglfflmjaaGreatDoor

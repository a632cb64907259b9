/- Layer 7: the reference's ToUnits and FromUnits; the walk of MoneyUnits. -/
import Derived.Test.YtalnfbgaiegicaaGreatDoorMpL2
import Derived.Test.YtalnfbgaiegicaaGreatDoorRatAk
import Derived.Test.YtalnfbgaiegicaaGreatDoorMoC
namespace Go.Proofs.YtalnfbgaiegicaaGreatDoor
open Go Go.RowKit

section
set_option maxRecDepth 100000
set_option maxHeartbeats 3200000
theorem rrat_any (n d : Int) (hn : n.natAbs < lim) (hd : d.natAbs < lim) (n0 : -9223372036854775808 ≤ n) (n1 : n ≤ 9223372036854775807) (d0 : d ≠ 0) (d1 : -9223372036854775808 ≤ d) (d2 : d ≤ 9223372036854775807) (q : Rat) (hq : Rat.divInt n d = q) (w : World) :
    Calls Tryz.prog 44 #[.int .i64 n, .int .i64 d] w (StrR (rq q) w) := by
  have h := fun W => refMake_any (rep n) (rep d) (rep_len hn) (rep_len hd) W
  simp only [rep_data, mkS_ok (chk_rep hn hd) (by rw [num_itoa]; exact d0), num_itoa, qN_rat d0, qD_rat d0, hq] at h
  have J3 := Lib.hid (show ∀ W, Calls Tryz.prog 80 #[.string (rep n), .string (rep d)] W (StE (rq q) 0 W) from h)
  have J1 := Lib.hid (fun W => refOf_any n n0 n1 W)
  have J2 := Lib.hid (fun W => refOf_any d d1 d2 W)
  clear h hn hd hq d0
  go_enter Tryz.func44, Tryz.ntmps44
  go_wp2_with (first
    | (go_at_call 51; ((with_reducible refine (J1.out _).mono ?_); rintro e w1 ⟨rfl, b⟩; have B1 := Lib.hid b; clear b))
    | (go_at_call 51; ((with_reducible refine (J2.out _).mono ?_); rintro e w2 ⟨rfl, b⟩; have B2 := Lib.hid (btM B1.out b); clear b))
    | (go_at_call 80; ((refine (J3.out _).mono ?_); rintro e w3 ⟨rfl, b⟩; have B3 := Lib.hid (btM B2.out b); clear b)))
  go_ret
  exact ⟨rfl, B3.out⟩
theorem rtou_unit (s c : ByteArray) (m uv ue : Int) (_h0 : 0 ≤ m) (_h255 : m ≤ 255) (w : World) (hb : ue = 2 ∨ ue = 0 ∧ 4 < m)
    (H1 : Calls Tryz.prog 18 #[.string c] w (UnR uv ue w)) :
    Calls Tryz.prog 19 #[.string s, .string c, .int .u8 m] w (UnR 0 2 w) := by
  have J1 := Lib.hid H1
  clear H1
  rcases hb with rfl | ⟨rfl, hm⟩
  all_goals
    go_enter Tryz.func19, Tryz.ntmps19
    go_wp2_with (go_at_call 18; ((with_reducible refine J1.out.mono ?_); rintro e w1 ⟨rfl, b⟩; have B1 := Lib.hid b; clear b))
    go_ret2
    exact ⟨rfl, B1.out⟩
theorem rtou_check (s c : ByteArray) (m uv k : Int) (_h0 : 0 ≤ m) (hm : m ≤ 4) (hk : (k != 0) = true) (w : World)
    (H1 : Calls Tryz.prog 18 #[.string c] w (UnR uv 0 w))
    (H2 : ∀ W, Calls Tryz.prog 42 #[.string s] W (IntB k W)) :
    Calls Tryz.prog 19 #[.string s, .string c, .int .u8 m] w (UnR 0 12 w) := by
  have J1 := Lib.hid H1
  have J2 := Lib.hid H2
  clear H1 H2
  go_enter Tryz.func19, Tryz.ntmps19
  go_wp2_with (first
    | (go_at_call 18; ((with_reducible refine J1.out.mono ?_); rintro e w1 ⟨rfl, b⟩; have B1 := Lib.hid b; clear b))
    | (go_at_call 42; ((with_reducible refine (J2.out _).mono ?_); rintro e w2 ⟨rfl, b⟩; have B2 := Lib.hid (btM B1.out b); clear b)))
  go_ret2
  exact ⟨rfl, B2.out⟩
theorem rtou_mul (s c O : ByteArray) (m uv one : Int) (_h0 : 0 ≤ m) (hm : m ≤ 4) (w : World)
    (H1 : Calls Tryz.prog 18 #[.string c] w (UnR uv 0 w))
    (H2 : ∀ W, Calls Tryz.prog 42 #[.string s] W (IntB 0 W))
    (H3 : ∀ W, Calls Tryz.prog 45 #[.int .i64 uv] W fun e w' => e = .returned (.int .i64 one) ∧ W = w')
    (H4 : ∀ W, Calls Tryz.prog 44 #[.int .i64 one, .int .i64 1] W (StrR O W))
    (H5 : ∀ W, Calls Tryz.prog 43 #[.string s, .string O] W (StE ⟨#[]⟩ 14 W)) :
    Calls Tryz.prog 19 #[.string s, .string c, .int .u8 m] w (UnR 0 14 w) := by
  have J1 := Lib.hid H1
  have J2 := Lib.hid H2
  have J3 := Lib.hid H3
  have J4 := Lib.hid H4
  have J5 := Lib.hid H5
  clear H1 H2 H3 H4 H5
  go_enter Tryz.func19, Tryz.ntmps19
  go_wp2_with (first
    | (go_at_call 18; ((with_reducible refine J1.out.mono ?_); rintro e w1 ⟨rfl, b⟩; have B1 := Lib.hid b; clear b))
    | (go_at_call 42; ((with_reducible refine (J2.out _).mono ?_); rintro e w2 ⟨rfl, b⟩; have B2 := Lib.hid (btM B1.out b); clear b))
    | (go_at_call 45; ((with_reducible refine (J3.out _).mono ?_); rintro e w3 ⟨rfl, rfl⟩))
    | (go_at_call 44; ((with_reducible refine (J4.out _).mono ?_); rintro e w4 ⟨rfl, b⟩; have B4 := Lib.hid (btM B2.out b); clear b))
    | (go_at_call 43; ((with_reducible refine (J5.out _).mono ?_); rintro e w5 ⟨rfl, b⟩; have B5 := Lib.hid (btM B4.out b); clear b)))
  go_ret2
  exact ⟨rfl, B5.out⟩
theorem rtou_ok (s c O P Z : ByteArray) (m uv one N tv te av ae : Int) (_h0 : 0 ≤ m) (hm : m ≤ 4) (w : World) (hb : (tv = N ∧ te = 0 ∧ amB N = true ∧ av = N ∧ ae = 0) ∨ (tv = N ∧ te = 0 ∧ amB N = false ∧ av = 0 ∧ ae = 14) ∨ (tv = 0 ∧ te = 14 ∧ av = 0 ∧ ae = 14))
    (H1 : Calls Tryz.prog 18 #[.string c] w (UnR uv 0 w))
    (H2 : ∀ W, Calls Tryz.prog 42 #[.string s] W (IntB 0 W))
    (H3 : ∀ W, Calls Tryz.prog 45 #[.int .i64 uv] W fun e w' => e = .returned (.int .i64 one) ∧ W = w')
    (H4 : ∀ W, Calls Tryz.prog 44 #[.int .i64 one, .int .i64 1] W (StrR O W))
    (H5 : ∀ W, Calls Tryz.prog 43 #[.string s, .string O] W (StE P 0 W))
    (H6 : ∀ W, Calls Tryz.prog 46 #[.string P, .int .u8 m] W (StE Z 0 W))
    (H7 : ∀ W, Calls Tryz.prog 47 #[.string Z] W (UnR tv te W)) :
    Calls Tryz.prog 19 #[.string s, .string c, .int .u8 m] w (UnR av ae w) := by
  have J1 := Lib.hid H1
  have J2 := Lib.hid H2
  have J3 := Lib.hid H3
  have J4 := Lib.hid H4
  have J5 := Lib.hid H5
  have J6 := Lib.hid H6
  have J7 := Lib.hid H7
  have JA := Lib.hid (fun b h W => ramount_any N b h W)
  clear H1 H2 H3 H4 H5 H6 H7
  rcases hb with ⟨rfl, rfl, hb, rfl, rfl⟩ | ⟨rfl, rfl, hb, rfl, rfl⟩ | ⟨rfl, rfl, rfl, rfl⟩
  · have J8 := Lib.hid (JA.out true hb)
    clear JA hb
    go_enter Tryz.func19, Tryz.ntmps19
    go_wp2_with (first
      | (go_at_call 18; ((with_reducible refine J1.out.mono ?_); rintro e w1 ⟨rfl, b⟩; have B1 := Lib.hid b; clear b))
      | (go_at_call 42; ((with_reducible refine (J2.out _).mono ?_); rintro e w2 ⟨rfl, b⟩; have B2 := Lib.hid (btM B1.out b); clear b))
      | (go_at_call 45; ((with_reducible refine (J3.out _).mono ?_); rintro e w3 ⟨rfl, rfl⟩))
      | (go_at_call 44; ((with_reducible refine (J4.out _).mono ?_); rintro e w4 ⟨rfl, b⟩; have B4 := Lib.hid (btM B2.out b); clear b))
      | (go_at_call 43; ((with_reducible refine (J5.out _).mono ?_); rintro e w5 ⟨rfl, b⟩; have B5 := Lib.hid (btM B4.out b); clear b))
      | (go_at_call 46; ((with_reducible refine (J6.out _).mono ?_); rintro e w6 ⟨rfl, b⟩; have B6 := Lib.hid (btM B5.out b); clear b))
      | (go_at_call 47; ((with_reducible refine (J7.out _).mono ?_); rintro e w7 ⟨rfl, b⟩; have B7 := Lib.hid (btM B6.out b); clear b))
      | (go_at_call 48; ((with_reducible refine (J8.out _).mono ?_); rintro e w8 ⟨rfl, rfl⟩)))
    go_ret2
    exact ⟨rfl, B7.out⟩
  · have J8 := Lib.hid (JA.out false hb)
    clear JA hb
    go_enter Tryz.func19, Tryz.ntmps19
    go_wp2_with (first
      | (go_at_call 18; ((with_reducible refine J1.out.mono ?_); rintro e w1 ⟨rfl, b⟩; have B1 := Lib.hid b; clear b))
      | (go_at_call 42; ((with_reducible refine (J2.out _).mono ?_); rintro e w2 ⟨rfl, b⟩; have B2 := Lib.hid (btM B1.out b); clear b))
      | (go_at_call 45; ((with_reducible refine (J3.out _).mono ?_); rintro e w3 ⟨rfl, rfl⟩))
      | (go_at_call 44; ((with_reducible refine (J4.out _).mono ?_); rintro e w4 ⟨rfl, b⟩; have B4 := Lib.hid (btM B2.out b); clear b))
      | (go_at_call 43; ((with_reducible refine (J5.out _).mono ?_); rintro e w5 ⟨rfl, b⟩; have B5 := Lib.hid (btM B4.out b); clear b))
      | (go_at_call 46; ((with_reducible refine (J6.out _).mono ?_); rintro e w6 ⟨rfl, b⟩; have B6 := Lib.hid (btM B5.out b); clear b))
      | (go_at_call 47; ((with_reducible refine (J7.out _).mono ?_); rintro e w7 ⟨rfl, b⟩; have B7 := Lib.hid (btM B6.out b); clear b))
      | (go_at_call 48; ((with_reducible refine (J8.out _).mono ?_); rintro e w8 ⟨rfl, rfl⟩)))
    go_ret2
    exact ⟨rfl, B7.out⟩
  · clear JA
    go_enter Tryz.func19, Tryz.ntmps19
    go_wp2_with (first
      | (go_at_call 18; ((with_reducible refine J1.out.mono ?_); rintro e w1 ⟨rfl, b⟩; have B1 := Lib.hid b; clear b))
      | (go_at_call 42; ((with_reducible refine (J2.out _).mono ?_); rintro e w2 ⟨rfl, b⟩; have B2 := Lib.hid (btM B1.out b); clear b))
      | (go_at_call 45; ((with_reducible refine (J3.out _).mono ?_); rintro e w3 ⟨rfl, rfl⟩))
      | (go_at_call 44; ((with_reducible refine (J4.out _).mono ?_); rintro e w4 ⟨rfl, b⟩; have B4 := Lib.hid (btM B2.out b); clear b))
      | (go_at_call 43; ((with_reducible refine (J5.out _).mono ?_); rintro e w5 ⟨rfl, b⟩; have B5 := Lib.hid (btM B4.out b); clear b))
      | (go_at_call 46; ((with_reducible refine (J6.out _).mono ?_); rintro e w6 ⟨rfl, b⟩; have B6 := Lib.hid (btM B5.out b); clear b))
      | (go_at_call 47; ((with_reducible refine (J7.out _).mono ?_); rintro e w7 ⟨rfl, b⟩; have B7 := Lib.hid (btM B6.out b); clear b)))
    go_ret2
    exact ⟨rfl, B7.out⟩
theorem rfrom_bad (c : ByteArray) (n uv ue : Int) (w : World) (hb : ue = 2 ∨ ue = 0 ∧ amB n = false)
    (H1 : Calls Tryz.prog 18 #[.string c] w (UnR uv ue w)) :
    Calls Tryz.prog 20 #[.int .i64 n, .string c] w (StE ⟨#[]⟩ 2 w) := by
  have J1 := Lib.hid H1
  clear H1
  rcases hb with rfl | ⟨rfl, hm⟩
  · go_enter Tryz.func20, Tryz.ntmps20
    go_wp2_with (go_at_call 18; ((with_reducible refine J1.out.mono ?_); rintro e w1 ⟨rfl, b⟩; have B1 := Lib.hid b; clear b))
    go_ret2
    exact ⟨rfl, B1.out⟩
  · have J2 := Lib.hid (fun W => ramount_any n false hm W)
    clear hm
    go_enter Tryz.func20, Tryz.ntmps20
    go_wp2_with (first
      | (go_at_call 18; ((with_reducible refine J1.out.mono ?_); rintro e w1 ⟨rfl, b⟩; have B1 := Lib.hid b; clear b))
      | (go_at_call 48; ((with_reducible refine (J2.out _).mono ?_); rintro e w2 ⟨rfl, rfl⟩)))
    go_ret2
    exact ⟨rfl, B1.out⟩
theorem rfrom_ok (c R : ByteArray) (n uv one : Int) (w : World) (hm : amB n = true)
    (H1 : Calls Tryz.prog 18 #[.string c] w (UnR uv 0 w))
    (H3 : ∀ W, Calls Tryz.prog 45 #[.int .i64 uv] W fun e w' => e = .returned (.int .i64 one) ∧ W = w')
    (H4 : ∀ W, Calls Tryz.prog 44 #[.int .i64 n, .int .i64 one] W (StrR R W)) :
    Calls Tryz.prog 20 #[.int .i64 n, .string c] w (StE R 0 w) := by
  have J1 := Lib.hid H1
  have J2 := Lib.hid (fun W => ramount_any n true hm W)
  have J3 := Lib.hid H3
  have J4 := Lib.hid H4
  clear hm H1 H3 H4
  go_enter Tryz.func20, Tryz.ntmps20
  go_wp2_with (first
    | (go_at_call 18; ((with_reducible refine J1.out.mono ?_); rintro e w1 ⟨rfl, b⟩; have B1 := Lib.hid b; clear b))
    | (go_at_call 48; ((with_reducible refine (J2.out _).mono ?_); rintro e w2 ⟨rfl, rfl⟩))
    | (go_at_call 45; ((with_reducible refine (J3.out _).mono ?_); rintro e w3 ⟨rfl, rfl⟩))
    | (go_at_call 44; ((with_reducible refine (J4.out _).mono ?_); rintro e w4 ⟨rfl, b⟩; have B4 := Lib.hid (btM B1.out b); clear b)))
  go_ret2
  exact ⟨rfl, B4.out⟩
theorem units_walk (s c x : ByteArray) (n m a e k g i : Int) (_h0 : 0 ≤ m) (_h255 : m ≤ 255) (hs : s.size ≤ 4000) (w : World) (hv : VarM w)
    (H1 : ∀ W, VarM W → Calls Tryz.prog 10 #[.string c] W (UnR a e W))
    (H2 : ∀ W, Calls Tryz.prog 18 #[.string c] W (UnR a e W))
    (H3 : ∀ W, VarM W → Calls Tryz.prog 11 #[.string s, .string c, .int .u8 m] W (UnR k g W))
    (H4 : ∀ W, Calls Tryz.prog 19 #[.string s, .string c, .int .u8 m] W (UnR k g W))
    (H5 : ∀ W, VarM W → Calls Tryz.prog 12 #[.int .i64 n, .string c] W (StE x i W))
    (H6 : ∀ W, Calls Tryz.prog 20 #[.int .i64 n, .string c] W (StE x i W)) :
    Calls Tryz.prog 4 #[.string s, .int .i64 n, .string c, .int .u8 m] w (BoM true w) := by
  have HV := Lib.hid hv
  have J1 := Lib.hid H1
  have J2 := Lib.hid H2
  have J3 := Lib.hid H3
  have J4 := Lib.hid H4
  have J5 := Lib.hid H5
  have J6 := Lib.hid H6
  have hsz : ¬ (4000 : Int) < (s.size : Int) := by omega
  have q1 : (a == a) = true := by simp
  have q2 : (e == e) = true := by simp
  have q3 : (k == k) = true := by simp
  have q4 : (g == g) = true := by simp
  have q5 : (x.toList == x.toList) = true := by simp
  have q6 : (i == i) = true := by simp
  clear hv H1 H2 H3 H4 H5 H6 hs
  go_enter Tryz.func4, Tryz.ntmps4
  go_wp2_with (first
    | (go_at_call 10; ((with_reducible refine (J1.out _ HV.out).mono ?_); rintro e w1 ⟨rfl, b⟩; have B1 := Lib.hid b; clear b))
    | (go_at_call 18; ((with_reducible refine (J2.out _).mono ?_); rintro e w2 ⟨rfl, b⟩; have B2 := Lib.hid (btM B1.out b); clear b))
    | (go_at_call 11; ((with_reducible refine (J3.out _ (HV.out.below B2.out)).mono ?_); rintro e w3 ⟨rfl, b⟩; have B3 := Lib.hid (btM B2.out b); clear b))
    | (go_at_call 19; ((with_reducible refine (J4.out _).mono ?_); rintro e w4 ⟨rfl, b⟩; have B4 := Lib.hid (btM B3.out b); clear b))
    | (go_at_call 12; ((with_reducible refine (J5.out _ (HV.out.below B4.out)).mono ?_); rintro e w5 ⟨rfl, b⟩; have B5 := Lib.hid (btM B4.out b); clear b))
    | (go_at_call 20; ((with_reducible refine (J6.out _).mono ?_); rintro e w6 ⟨rfl, b⟩; have B6 := Lib.hid (btM B5.out b); clear b)))
  go_ret
  exact ⟨rfl, B6.out⟩
theorem units_big (s c : ByteArray) (n m : Int) (_h0 : 0 ≤ m) (_h255 : m ≤ 255) (hs : 4000 < s.size) (w : World) :
    Calls Tryz.prog 4 #[.string s, .int .i64 n, .string c, .int .u8 m] w (BoM true w) := by
  have hsz : (4000 : Int) < (s.size : Int) := by omega
  clear hs
  go_enter Tryz.func4, Tryz.ntmps4
  go_wp2
  go_ret
  exact ⟨rfl, Below.refl _ _⟩
end
theorem runit_un (c : ByteArray) (w : World) : Calls Tryz.prog 18 #[.string c] w (UnR (unV c.data.toList) (unE c.data.toList) w) :=
  (runit_any c w).mono fun _ _ ⟨h1, h2⟩ => ⟨h1, h2 ▸ Below.refl _ _⟩
theorem divInt_one (n : Int) : Rat.divInt n 1 = (n : Rat) := by
  rw [Rat.divInt_eq_div, Rat.intCast_one, Rat.div_def, show (1 : Rat)⁻¹ = 1 by decide +kernel, Rat.mul_one]
theorem rtounits_any (s c : ByteArray) (hs : s.size ≤ 1048576) (m : Int) (h0 : 0 ≤ m) (h255 : m ≤ 255) (w : World) :
    Calls Tryz.prog 19 #[.string s, .string c, .int .u8 m] w (UnR (tuV s.data.toList c.data.toList m) (tuE s.data.toList c.data.toList m) w) := by
  have hU := runit_un c w
  obtain ⟨t1, t2⟩ := ten_le c.data.toList
  have hbig := lim_big
  cases hn : nameB c.data.toList
  · obtain ⟨e1, e2⟩ := tu_name (r := s.data.toList) (m := m) (.inl hn)
    rw [e1, e2]
    unfold unE at hU
    rw [if_neg (by rw [hn]; decide)] at hU
    exact rtou_unit s c m _ _ h0 h255 w (.inl rfl) hU
  unfold unE unV at hU
  rw [if_pos hn, if_pos hn] at hU
  by_cases h4 : m ≤ 4
  · have H2 := fun W => refRCheck_any s hs W
    by_cases hc : chkR s.data.toList = 0
    · rw [hc] at H2
      rcases text_cases s with hbad | ⟨q, rfl, hq⟩
      · exact absurd hc hbad
      have H3 := fun W => rpower_any (unU c.data.toList) (by rcases unU_cases c.data.toList with h | h | h <;> rw [h] <;> simp) W
      have H4 := fun W => rrat_any ((10 ^ unU c.data.toList : Nat) : Int) 1 (by omega) (by show 1 < lim; omega) (by omega) (by omega) (by decide) (by decide) (by decide) _ (divInt_one _) W
      have H5 := fun W => refrmul_any (rq q) (rq (uq (unU c.data.toList))) hs (Nat.le_trans (rq_size (sml_uq _)) (by decide)) W
      rw [twT_rq hq (sml_uq _), twC_rq hq (sml_uq _)] at H5
      rcases mulC_cases q (uq (unU c.data.toList)) with hm | hm
      · obtain ⟨e1, e2⟩ := tu_ok (r := (rq q).data.toList) (c := c.data.toList) (m := m) hn h4 hc (by rw [qv_rq]; exact hm)
        rw [e1, e2]
        rw [hm, qT_ok] at H5
        have hp := mulC_ok' hm
        have H6 := fun W => refRound_any (rq (q * uq (unU c.data.toList))) (Nat.le_trans (rq_size hp) (by decide)) m h0 h255 W
        have hr : roC m (rq (q * uq (unU c.data.toList))).data.toList = 0 := by unfold roC; rw [if_neg (by omega), rq_chk hp]
        unfold roT at H6
        rw [hr, if_pos rfl, qv_rq] at H6
        unfold tuN
        rw [qv_rq]
        have H7 := fun W => refTo_any (rep (rndQ m.toNat (q * uq (unU c.data.toList)))) (rep_len (rndQ_abs _ hp)) W
        rw [rep_data] at H7
        refine rtou_ok _ c _ _ _ m _ _ (rndQ m.toNat (q * uq (unU c.data.toList))) _ _ _ _ h0 h4 w ?_ hU H2 H3 H4 H5 H6 H7
        unfold amV amE
        rcases toS_itoa (rndQ m.toNat (q * uq (unU c.data.toList))) with ⟨h1, -, -⟩ | ⟨h1, h2⟩
        · rw [h1]
          cases hb : amB (rndQ m.toNat (q * uq (unU c.data.toList)))
          · exact .inr (.inl ⟨rfl, rfl, rfl, rfl, rfl⟩)
          · exact .inl ⟨rfl, rfl, rfl, rfl, rfl⟩
        · rw [h1, h2]
          exact .inr (.inr ⟨rfl, rfl, rfl, rfl⟩)
      · obtain ⟨e1, e2⟩ := tu_mul (r := (rq q).data.toList) (c := c.data.toList) (m := m) hn h4 hc (by rw [qv_rq]; exact hm)
        rw [e1, e2]
        rw [hm, qT_err (by decide)] at H5
        exact rtou_mul _ c _ m _ _ h0 h4 w hU H2 H3 H4 H5
    · obtain ⟨e1, e2⟩ := tu_check (r := s.data.toList) (c := c.data.toList) (m := m) hn h4 hc
      rw [e1, e2]
      exact rtou_check s c m _ _ h0 h4 (by rw [bne_iff_ne]; exact hc) w hU H2
  · obtain ⟨e1, e2⟩ := tu_name (r := s.data.toList) (c := c.data.toList) (m := m) (.inr (by omega))
    rw [e1, e2]
    exact rtou_unit s c m _ _ h0 h255 w (.inr ⟨rfl, by omega⟩) hU
theorem rfromunits_any (n : Int) (c : ByteArray) (w : World) :
    Calls Tryz.prog 20 #[.int .i64 n, .string c] w (StE (fuT n c.data.toList) (fuE n c.data.toList) w) := by
  have hU := runit_un c w
  obtain ⟨t1, t2⟩ := ten_le c.data.toList
  unfold fuT fuE
  cases hn : nameB c.data.toList
  · rw [Bool.false_and, if_neg (by decide), if_neg (by decide)]
    unfold unE at hU
    rw [if_neg (by rw [hn]; decide)] at hU
    exact rfrom_bad c n _ _ w (.inl rfl) hU
  unfold unE unV at hU
  rw [if_pos hn, if_pos hn] at hU
  cases hm : amB n
  · rw [Bool.and_false, if_neg (by decide), if_neg (by decide)]
    exact rfrom_bad c n _ _ w (.inr ⟨rfl, hm⟩) hU
  · rw [Bool.and_true, if_pos rfl, if_pos rfl]
    obtain ⟨l1, l2, l3⟩ := fu_lim hm c.data.toList
    have h1 := (amB_iff n).1 hm
    exact rfrom_ok c _ n _ _ w hm hU (fun W => rpower_any (unU c.data.toList) (by rcases unU_cases c.data.toList with h | h | h <;> rw [h] <;> simp) W) (fun W => rrat_any n _ l1 l2 (by omega) (by omega) l3 (by omega) (by omega) _ rfl W)
theorem units_law (s c : ByteArray) (n m : Int) (h0 : 0 ≤ m) (h255 : m ≤ 255) (w : World) (hv : VarM w) :
    Calls Tryz.prog 4 #[.string s, .int .i64 n, .string c, .int .u8 m] w (BoM true w) := by
  by_cases hs : s.size ≤ 4000
  · exact units_walk s c _ n m _ _ _ _ _ h0 h255 hs w hv (fun W _ => punit_any c W) (fun W => runit_un c W)
      (fun W hW => ptounits_any s c (by omega) m h0 h255 W hW) (fun W => rtounits_any s c (by omega) m h0 h255 W)
      (fun W hW => pfromunits_any n c W hW) (fun W => rfromunits_any n c W)
  · exact units_big s c n m h0 h255 (by omega) w
end Go.Proofs.YtalnfbgaiegicaaGreatDoor

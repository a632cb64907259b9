/- Layer 5: the program's walks: Fraction. -/
import Derived.Test.YtpgfadkkfofhcaaGreatDoorDcN
import Derived.Test.YtpgfadkkfofhcaaGreatDoorDcF
namespace Go.Proofs.YtpgfadkkfofhcaaGreatDoor
open Go Go.RowKit

/-- What layer 5 reaches: the variables of layers 2 and 3. -/
structure VarF (w : World) : Prop where
  r : VarR w
  d : VarD w
theorem VarF.below {w w' : World} (h : VarF w) (hb : Below w.heap.size w w') : VarF w' := ⟨h.r.below hb, h.d.below hb⟩
theorem ratio_q (n d : Int) (hd : d ≠ 0) (n0 : -999999 ≤ n) (n1 : n ≤ 999999) (d0 : -999999 ≤ d) (d1 : d ≤ 999999) (q : Rat) (hq : Rat.divInt n d = q) (w : World) (hv : VarT w) :
    Calls Tryz.prog 19 #[.int .i64 n, .int .i64 d] w (StE (rq q) 0 w) := by
  have h := ratio_any n d (by omega) (by omega) (by omega) (by omega) w hv
  rw [mkS_ok (chk_rep ((dg6 n0 n1).lim (by decide)) ((dg6 d0 d1).lim (by decide))) (by rw [num_itoa]; exact hd), num_itoa, num_itoa, qN_rat hd, qD_rat hd, hq] at h
  exact h
theorem first_of {y m d n : Int} (h : IsDate y m d n) (hn : n ≤ 99999) (w : World) (hv : VarD w) :
    Calls Tryz.prog 15 #[.int .i64 y, .int .i64 1, .int .i64 1] w (DysW (foy y) 0 w) := by
  have hf : IsDate y 1 1 (foy y) := ⟨h.y0, by decide, by decide, by decide, by have := mlen_bd y 1; omega, by show foy y + 1 = foy y + mo y 0 + 1; simp [mo]⟩
  have hle : foy y ≤ 99999 := by have := h.foy_in; omega
  have g := of_anyD y 1 1 w hv
  rw [hf.of_v hle, hf.of_e hle] at g
  exact g
set_option maxRecDepth 100000 in
set_option maxHeartbeats 1600000 in
theorem yearsUpTo_walk (n y m d f l : Int) (R : ByteArray) (lp : Bool) (hl : (lp = true ∧ 366 = l) ∨ (lp = false ∧ 365 = l)) (y0 : 1900 ≤ y) (y1 : y ≤ 2173) (n0 : 0 ≤ n) (n1 : n ≤ 99999) (f0 : 0 ≤ f) (f1 : f ≤ 99999) (w : World) (hv : VarF w)
    (H1 : Calls Tryz.prog 17 #[.int .i64 n] w fun e w' => e = .returned (.tuple #[.int .i64 y, .int .i64 m, .int .i64 d, .int .i64 0]) ∧ w = w')
    (H2 : Calls Tryz.prog 15 #[.int .i64 y, .int .i64 1, .int .i64 1] w (DysW f 0 w))
    (H3 : ∀ W, Calls Tryz.prog 59 #[.int .i64 y] W fun e w' => e = .returned (.bool lp) ∧ W = w')
    (H4 : ∀ W, VarT W → Calls Tryz.prog 19 #[.int .i64 (y * l + n - f), .int .i64 l] W (StE R 0 W)) :
    Calls Tryz.prog 38 #[.int .i64 n] w (StE R 0 w) := by
  have HV := Lib.hid hv
  have J1 := Lib.hid H1
  have J2 := Lib.hid H2
  have J3 := Lib.hid H3
  have J4 := Lib.hid H4
  have HO := Lib.hid (fun t => corE_new 0 0 w t)
  have HB := Lib.hid (belE w)
  rw [if_pos rfl] at HO
  clear hv H1 H2 H3 H4
  rcases hl with ⟨rfl, rfl⟩ | ⟨rfl, rfl⟩
  all_goals
    go_enter Tryz.func38, Tryz.ntmps38
    go_wp2_with (first
      | (go_at_call 17; ((with_reducible refine J1.out.mono ?_); rintro e w1 ⟨rfl, rfl⟩))
      | (go_at_call 15; ((with_reducible refine J2.out.mono ?_); rintro e w1 ⟨rfl, rfl⟩))
      | (go_at_call 23; ((with_reducible refine (HO.out _).mono ?_); rintro e w1 ⟨rfl, rfl⟩))
      | (go_at_call 59; ((with_reducible refine (J3.out _).mono ?_); rintro e w1 ⟨rfl, rfl⟩))
      | (go_at_call 19; ((with_reducible refine (J4.out _ (HV.out.below (HB.out _)).r.t).mono ?_); rintro e w2 ⟨rfl, b⟩; have B2 := Lib.hid (btE (HB.out _) b); clear b)))
    go_ret2
    exact ⟨rfl, B2.out⟩
theorem yearsUpTo_in {y m d n : Int} (h : IsDate y m d n) (hn : n ≤ 99999) (w : World) (hv : VarF w) :
    Calls Tryz.prog 38 #[.int .i64 n] w (StE (rq (yup y n)) 0 w) := by
  obtain ⟨p0, p1, -, -, -, -, p6⟩ := h.bds hn
  have hf := h.foy_in
  have hb := yup_bd h hn
  have f0 := (foy_bd y p0 (by omega)).1
  refine yearsUpTo_walk n y m d (foy y) (yln y) _ (leapB y) ?_ p0 p1 p6 hn f0 (by omega) w hv (parts4_in y m d n h hn w hv.d) (first_of h hn w hv.d) (leap_any y) (fun W hW => ?_)
  · rcases yln_cases y with ⟨e1, e2⟩ | ⟨e1, e2⟩
    · exact .inl ⟨e1, e2.symm⟩
    · exact .inr ⟨e1, e2.symm⟩
  · have hl : -999999 ≤ yln y ∧ yln y ≤ 999999 := by rcases yln_cases y with ⟨_, e⟩ | ⟨_, e⟩ <;> rw [e] <;> decide
    exact ratio_q _ _ (yln_ne y) (by omega) hb.2 hl.1 hl.2 _ rfl W hW
set_option maxRecDepth 100000 in
set_option maxHeartbeats 1600000 in
theorem yearsBetween_walk (n1 n2 : Int) (A B R : ByteArray) (w : World) (hv : VarF w)
    (H1 : ∀ W, VarF W → Calls Tryz.prog 38 #[.int .i64 n1] W (StE A 0 W))
    (H2 : ∀ W, VarF W → Calls Tryz.prog 38 #[.int .i64 n2] W (StE B 0 W))
    (H3 : ∀ W, VarR W → Calls Tryz.prog 39 #[.string B, .string A] W (StE R 0 W)) :
    Calls Tryz.prog 20 #[.int .i64 n1, .int .i64 n2] w (StE R 0 w) := by
  have HV := Lib.hid hv
  have J1 := Lib.hid H1
  have J2 := Lib.hid H2
  have J3 := Lib.hid H3
  clear hv H1 H2 H3
  go_enter Tryz.func20, Tryz.ntmps20
  go_wp2_with (first
    | (go_at_call 38; ((with_reducible refine (J1.out _ HV.out).mono ?_); rintro e w1 ⟨rfl, b⟩; have B1 := Lib.hid b; clear b))
    | (go_at_call 38; ((with_reducible refine (J2.out _ (HV.out.below B1.out)).mono ?_); rintro e w2 ⟨rfl, b⟩; have B2 := Lib.hid (btE B1.out b); have HO := Lib.hid (fun t => corE_new 0 0 w2 t); rw [if_pos rfl] at HO; clear b))
    | (go_at_call 23; ((with_reducible refine (HO.out _).mono ?_); rintro e w3 ⟨rfl, rfl⟩))
    | (go_at_call 39; ((with_reducible refine (J3.out _ (HV.out.below (btE B2.out (belE w2 _))).r).mono ?_); rintro e w4 ⟨rfl, b⟩; have B4 := Lib.hid (btE (btE B2.out (belE w2 _)) b); clear b)))
  go_ret2
  exact ⟨rfl, B4.out⟩
theorem yearsBetween_in {y1 m1 d1 n1 y2 m2 d2 n2 : Int} (h1 : IsDate y1 m1 d1 n1) (h2 : IsDate y2 m2 d2 n2) (b1 : n1 ≤ 99999) (b2 : n2 ≤ 99999) (w : World) (hv : VarF w) :
    Calls Tryz.prog 20 #[.int .i64 n1, .int .i64 n2] w (StE (rq (yup y2 n2 - yup y1 n1)) 0 w) :=
  yearsBetween_walk n1 n2 _ _ _ w hv (fun W hW => yearsUpTo_in h1 b1 W hW) (fun W hW => yearsUpTo_in h2 b2 W hW)
    (fun W hW => rsub_rq ((yup_qd h2 b2).sml (by decide)) ((yup_qd h1 b1).sml (by decide)) (subC_zero (yup_qd h2 b2) (yup_qd h1 b1) (by decide)) rfl _ _ _ rfl rfl rfl W hW)
set_option maxRecDepth 100000 in
set_option maxHeartbeats 1600000 in
theorem frac_out (r n1 n2 : Int) (r0 : 0 ≤ r) (r2 : r ≤ 255) (h : 4 < r ∨ n1 < 0 ∨ 99999 < n1 ∨ n2 < 0 ∨ 99999 < n2) (w : World) (hv : VarF w) :
    Calls Tryz.prog 9 #[.int .u8 r, .int .i64 n1, .int .i64 n2] w (StE ⟨#[]⟩ 2 w) := by
  have J1 := Lib.hid (days_out r n1 n2 r0 r2 h w hv.d)
  clear hv h
  go_enter Tryz.func9, Tryz.ntmps9
  go_wp2_with (go_at_call 10; ((with_reducible refine J1.out.mono ?_); rintro e w1 ⟨rfl, b⟩; have B1 := Lib.hid b; clear b))
  go_ret2
  exact ⟨rfl, B1.out⟩
set_option maxRecDepth 100000 in
set_option maxHeartbeats 1600000 in
theorem frac_act (n1 n2 v : Int) (R : ByteArray) (w : World) (hv : VarF w)
    (H1 : Calls Tryz.prog 10 #[.int .u8 3, .int .i64 n1, .int .i64 n2] w (DysR v 0 w))
    (H2 : ∀ W, VarF W → Calls Tryz.prog 20 #[.int .i64 n1, .int .i64 n2] W (StE R 0 W)) :
    Calls Tryz.prog 9 #[.int .u8 3, .int .i64 n1, .int .i64 n2] w (StE R 0 w) := by
  have HV := Lib.hid hv
  have J1 := Lib.hid H1
  have J2 := Lib.hid H2
  clear hv H1 H2
  go_enter Tryz.func9, Tryz.ntmps9
  go_wp2_with (first
    | (go_at_call 10; ((with_reducible refine J1.out.mono ?_); rintro e w1 ⟨rfl, b⟩; have B1 := Lib.hid b; clear b))
    | (go_at_call 20; ((with_reducible refine (J2.out _ (HV.out.below B1.out)).mono ?_); rintro e w2 ⟨rfl, b⟩; have B2 := Lib.hid (btE B1.out b); clear b)))
  go_ret2
  exact ⟨rfl, B2.out⟩
set_option maxRecDepth 100000 in
set_option maxHeartbeats 1600000 in
theorem frac_div (r n1 n2 v k : Int) (R : ByteArray) (hr : (r = 0 ∧ 365 = k) ∨ (r = 1 ∧ 360 = k) ∨ (r = 2 ∧ 360 = k) ∨ (r = 4 ∧ 360 = k)) (w : World) (hv : VarF w)
    (H1 : Calls Tryz.prog 10 #[.int .u8 r, .int .i64 n1, .int .i64 n2] w (DysR v 0 w))
    (H2 : ∀ W, VarT W → Calls Tryz.prog 19 #[.int .i64 v, .int .i64 k] W (StE R 0 W)) :
    Calls Tryz.prog 9 #[.int .u8 r, .int .i64 n1, .int .i64 n2] w (StE R 0 w) := by
  have HV := Lib.hid hv
  have J1 := Lib.hid H1
  have J2 := Lib.hid H2
  clear hv H1 H2
  rcases hr with ⟨rfl, rfl⟩ | ⟨rfl, rfl⟩ | ⟨rfl, rfl⟩ | ⟨rfl, rfl⟩
  all_goals
    go_enter Tryz.func9, Tryz.ntmps9
    go_wp2_with (first
      | (go_at_call 10; ((with_reducible refine J1.out.mono ?_); rintro e w1 ⟨rfl, b⟩; have B1 := Lib.hid b; clear b))
      | (go_at_call 19; ((with_reducible refine (J2.out _ (HV.out.below B1.out).r.t).mono ?_); rintro e w2 ⟨rfl, b⟩; have B2 := Lib.hid (btE B1.out b); clear b)))
    go_ret2
    exact ⟨rfl, B2.out⟩
theorem frac_in (r y1 m1 d1 n1 y2 m2 d2 n2 : Int) (q : Rat) (r0 : 0 ≤ r) (r4 : r ≤ 4) (h1 : IsDate y1 m1 d1 n1) (h2 : IsDate y2 m2 d2 n2) (b1 : n1 ≤ 99999) (b2 : n2 ≤ 99999) (hq : frQ r y1 m1 d1 n1 y2 m2 d2 n2 = q) (w : World) (hv : VarF w) :
    Calls Tryz.prog 9 #[.int .u8 r, .int .i64 n1, .int .i64 n2] w (StE (rq q) 0 w) := by
  have hD := days_in r y1 m1 d1 n1 y2 m2 d2 n2 _ r0 r4 h1 h2 b1 b2 rfl w hv.d
  by_cases h3 : r = 3
  · subst h3
    unfold frQ at hq
    rw [if_pos rfl] at hq
    subst hq
    exact frac_act n1 n2 _ _ w hv hD (fun W hW => yearsBetween_in h1 h2 b1 b2 W hW)
  · unfold frQ at hq
    rw [if_neg h3] at hq
    have g := dys_bd (r := r) h1 h2 b1 b2
    by_cases h0 : r = 0
    · rw [if_pos h0] at hq
      exact frac_div r n1 n2 _ 365 _ (.inl ⟨h0, rfl⟩) w hv hD (fun W hW => ratio_q _ 365 (by decide) (by omega) (by omega) (by decide) (by decide) q hq W hW)
    · rw [if_neg h0] at hq
      exact frac_div r n1 n2 _ 360 _ (by omega) w hv hD (fun W hW => ratio_q _ 360 (by decide) (by omega) (by omega) (by decide) (by decide) q hq W hW)
end Go.Proofs.YtpgfadkkfofhcaaGreatDoor

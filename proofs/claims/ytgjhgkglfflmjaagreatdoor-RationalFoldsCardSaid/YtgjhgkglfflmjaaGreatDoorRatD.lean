/- The walks of layer 2: Make, Ratio, Of. -/
import Derived.Test.YtgjhgkglfflmjaaGreatDoorRatC
namespace Go.Proofs.YtgjhgkglfflmjaaGreatDoor
open Go Go.RowKit

/-- What Make answers. -/
def mkS (l m : List UInt8) : List UInt8 × Int :=
  if bothE l m = 0 then (if num m = 0 then ([], 16) else (txtL (Lib.itoa (qN (num l) (num m))) (Lib.itoa (qD (num l) (num m))), 0)) else ([], bothE l m)
theorem mkS_err {l m : List UInt8} (h : ¬ bothE l m = 0) : mkS l m = ([], bothE l m) := by unfold mkS; rw [if_neg h]
theorem mkS_zero {l m : List UInt8} (h : bothE l m = 0) (h0 : num m = 0) : mkS l m = ([], 16) := by unfold mkS; rw [if_pos h, if_pos h0]
theorem mkS_ok {l m : List UInt8} (h : bothE l m = 0) (h0 : ¬ num m = 0) : mkS l m = (txtL (Lib.itoa (qN (num l) (num m))) (Lib.itoa (qD (num l) (num m))), 0) := by unfold mkS; rw [if_pos h, if_neg h0]
theorem qN_abs {x y : Int} (hx : x.natAbs < lim) : (qN x y).natAbs < lim := Nat.lt_of_le_of_lt (Int.natAbs_ediv_le_natAbs _ _) hx
theorem qD_abs {x y : Int} (hy : y.natAbs < lim) : (qD x y).natAbs < lim := Nat.lt_of_le_of_lt (Int.natAbs_ediv_le_natAbs _ _) hy
theorem rep_short {z : Int} (h : z.natAbs < lim) : (rep z).size ≤ 1001 := by rw [Lib.size_eq, rep_data]; exact len_of_chk (chk_of_abs h)
theorem rtext_is (n d : ByteArray) (l m : List UInt8) (hn : n.data.toList = l) (hd : d.data.toList = m) (hl : l.length ≤ 1073741824) (hm : m.length ≤ 1073741824) (w : World) :
    Calls Tryz.prog 48 #[.agg #[.string n, .string d]] w fun e w' => e = .returned (.string ⟨(txtL l m).toArray⟩) ∧ Below w.heap.size w w' := by
  subst hn; subst hd
  exact rtext_any n d (by rw [Lib.size_eq]; exact hl) (by rw [Lib.size_eq]; exact hm) w

section
variable (s t : ByteArray) (hs : s.size ≤ maxLen) (ht : t.size ≤ maxLen) (w : World) (hv : VarT w)
include hs ht hv
set_option maxRecDepth 100000 in
set_option maxHeartbeats 1600000 in
theorem make_any : Calls Tryz.prog 18 #[.string s, .string t] w fun e w' => e = .returned (.tuple #[.string ⟨(mkS s.data.toList t.data.toList).1.toArray⟩, .int .i64 (mkS s.data.toList t.data.toList).2]) ∧ Below w.heap.size w w' := by
  have CS := Lib.hid (fun W => check_any s W hs)
  have CT := Lib.hid (fun W => check_any t W ht)
  have HAL := Lib.hid (fun o => (Below.refl _ w).alloc (Nat.le_refl _) o)
  have HV := Lib.hid hv
  clear hv
  by_cases hb : bothE s.data.toList t.data.toList = 0
  · obtain ⟨hx, hy⟩ := bothE_zero hb
    have HO := Lib.hid (or_new 0 0 w)
    rw [if_pos rfl] at HO
    by_cases h0 : num t.data.toList = 0
    · have e0 : (t.toList == [48]) = true := by rw [Lib.toList_data, itoa_zero_num _ hy, h0, itoa_zero]; rfl
      rw [mkS_zero hb h0]
      rw [hx] at CS
      rw [hy] at CT
      clear hx hy hb hs ht h0
      go_enter Tryz.func18, Tryz.ntmps18
      go_wp2_with (first
        | (go_at_call 36; (with_reducible refine (CS.out _).mono ?_); rintro e w1 ⟨rfl, rfl⟩)
        | (go_at_call 36; (with_reducible refine (CT.out _).mono ?_); rintro e w1 ⟨rfl, rfl⟩)
        | (go_at_call 47; refine (HO.out _).mono ?_; rintro e w1 ⟨rfl, rfl⟩))
      go_ret2
      exact ⟨rfl, HAL.out _⟩
    · have e0 : (t.toList == [48]) = false := by
        rw [Lib.toList_data, beq_eq_false_iff_ne]
        intro h
        rw [h] at h0
        exact h0 (by decide +kernel)
      rw [mkS_ok hb h0]
      rw [hx] at CS
      rw [hy] at CT
      have Lx := abs_of_chk hx
      have Ly := abs_of_chk hy
      obtain ⟨u, hu⟩ : ∃ r, rep (qN (num s.data.toList) (num t.data.toList)) = r := ⟨_, rfl⟩
      obtain ⟨v, hd⟩ : ∃ r, rep (qD (num s.data.toList) (num t.data.toList)) = r := ⟨_, rfl⟩
      have CR := Lib.hid (reduced_rep Lx Ly h0 s t u v (rep_num s hx).symm (rep_num t hy).symm hu hd)
      have CX := Lib.hid (rtext_is u v (Lib.itoa (qN (num s.data.toList) (num t.data.toList))) (Lib.itoa (qD (num s.data.toList) (num t.data.toList))) (by rw [← hu]; rfl) (by rw [← hd]; rfl)
        (by have := len_of_chk (chk_of_abs (qN_abs (y := num t.data.toList) Lx)); omega) (by have := len_of_chk (chk_of_abs (qD_abs (x := num s.data.toList) Ly)); omega))
      generalize txtL (Lib.itoa (qN (num s.data.toList) (num t.data.toList))) (Lib.itoa (qD (num s.data.toList) (num t.data.toList))) = r at CX ⊢
      clear hx hy hb hs ht h0 Lx Ly hu hd
      go_enter Tryz.func18, Tryz.ntmps18
      go_wp2_with (first
        | (go_at_call 36; (with_reducible refine (CS.out _).mono ?_); rintro e w1 ⟨rfl, rfl⟩)
        | (go_at_call 36; (with_reducible refine (CT.out _).mono ?_); rintro e w1 ⟨rfl, rfl⟩)
        | (go_at_call 47; refine (HO.out _).mono ?_; rintro e w1 ⟨rfl, rfl⟩)
        | (go_at_call 49; refine (CR.out _ (HV.out.below (HAL.out _))).mono ?_; rintro e w2 ⟨rfl, b⟩; have B2 := Lib.hid (bt (HAL.out _) b); clear b)
        | (go_at_call 48; refine (CX.out _).mono ?_; rintro e w3 ⟨rfl, b⟩; have B3 := Lib.hid (bt B2.out b); clear b))
      go_ret2
      exact ⟨rfl, B3.out⟩
  · rw [mkS_err hb]
    unfold bothE at hb ⊢
    obtain ⟨x, hx⟩ : ∃ x, chk s.data.toList = x := ⟨_, rfl⟩
    obtain ⟨y, hy⟩ : ∃ y, chk t.data.toList = y := ⟨_, rfl⟩
    rw [hx] at CS hb ⊢
    rw [hy] at CT hb ⊢
    have HO := Lib.hid (or_new x y w)
    generalize (if x = 0 then y else x) = z at *
    have h1 : (z == 0) = false := by rw [beq_eq_false_iff_ne]; exact hb
    clear hx hy hs ht hb
    go_enter Tryz.func18, Tryz.ntmps18
    go_wp2_with (first
      | (go_at_call 36; (with_reducible refine (CS.out _).mono ?_); rintro e w1 ⟨rfl, rfl⟩)
      | (go_at_call 36; (with_reducible refine (CT.out _).mono ?_); rintro e w1 ⟨rfl, rfl⟩)
      | (go_at_call 47; refine (HO.out _).mono ?_; rintro e w1 ⟨rfl, rfl⟩))
    go_ret2
    exact ⟨rfl, HAL.out _⟩
end

theorem of_anyT (n : Int) (h0 : -9223372036854775808 ≤ n) (h1 : n ≤ 9223372036854775807) (w : World) (hv : VarT w) :
    Calls Tryz.prog 46 #[.int .i64 n] w fun e w' => e = .returned (.string ⟨(Lib.itoa n).toArray⟩) ∧ Below w.heap.size w w' := by
  have HI := Lib.hid (Tryz.strconv_Itoa n h0 h1 w hv.tab)
  clear hv
  go_enter Tryz.func46, Tryz.ntmps46
  go_wp2_with (go_at_call 84; refine HI.out.mono ?_; rintro e w1 ⟨rfl, k, os, rfl⟩)
  go_ret
  exact ⟨rfl, below_grow _ _ _⟩
theorem itoa_size (n : Int) (h0 : -9223372036854775808 ≤ n) (h1 : n ≤ 9223372036854775807) : (⟨(Lib.itoa n).toArray⟩ : ByteArray).size ≤ maxLen := by
  have := len_of_chk (chk_of_abs (small_abs n h0 h1))
  show (Lib.itoa n).length ≤ maxLen
  unfold maxLen; omega
set_option maxHeartbeats 400000 in
theorem ratio_any (n d : Int) (h0 : -9223372036854775808 ≤ n) (h1 : n ≤ 9223372036854775807) (k0 : -9223372036854775808 ≤ d) (k1 : d ≤ 9223372036854775807) (w : World) (hv : VarT w) :
    Calls Tryz.prog 17 #[.int .i64 n, .int .i64 d] w fun e w' => e = .returned (.tuple #[.string ⟨(mkS (Lib.itoa n) (Lib.itoa d)).1.toArray⟩, .int .i64 (mkS (Lib.itoa n) (Lib.itoa d)).2]) ∧ Below w.heap.size w w' := by
  have HV := Lib.hid hv
  have H1 := Lib.hid (of_anyT n h0 h1)
  have H2 := Lib.hid (of_anyT d k0 k1)
  have H3 := Lib.hid (make_any ⟨(Lib.itoa n).toArray⟩ ⟨(Lib.itoa d).toArray⟩ (itoa_size n h0 h1) (itoa_size d k0 k1))
  rw [show (⟨(Lib.itoa n).toArray⟩ : ByteArray).data.toList = Lib.itoa n from rfl, show (⟨(Lib.itoa d).toArray⟩ : ByteArray).data.toList = Lib.itoa d from rfl] at H3
  generalize Lib.itoa n = l at *
  generalize Lib.itoa d = m at *
  clear h0 h1 k0 k1 hv
  go_enter Tryz.func17, Tryz.ntmps17
  go_wp2_with (first
    | (go_at_call 46; (with_reducible refine (H1.out _ HV.out).mono ?_); rintro e w1 ⟨rfl, b1⟩)
    | (go_at_call 46; (with_reducible refine (H2.out _ (HV.out.below b1)).mono ?_); rintro e w2 ⟨rfl, b⟩; have b2 := bt b1 b; clear b)
    | (go_at_call 18; refine (H3.out _ (HV.out.below b2)).mono ?_; rintro e w3 ⟨rfl, b⟩; have b3 := bt b2 b; clear b))
  go_ret2
  exact ⟨rfl, b3⟩
end Go.Proofs.YtgjhgkglfflmjaaGreatDoor

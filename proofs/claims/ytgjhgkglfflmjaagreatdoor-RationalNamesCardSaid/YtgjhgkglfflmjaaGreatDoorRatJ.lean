/- The walks of the reference of layer 2: Make. -/
import Derived.Test.YtgjhgkglfflmjaaGreatDoorRatI
namespace Go.Proofs.YtgjhgkglfflmjaaGreatDoor
open Go Go.RowKit

def TwoB (q r : ByteArray) (e0 : Int) (w : World) (e : Ending) (w' : World) : Prop := e = .returned (.tuple #[.string q, .string r, .int .i64 e0]) ∧ Below w.heap.size w w'
theorem rep_small {z : Int} (h : z.natAbs < lim) : (rep z).size ≤ 1099511627776 := by have := rep_short h; omega
section
variable {x y : Int} (hx : x.natAbs < lim) (hy : y.natAbs < lim)
include hx hy
theorem refdm_rep {q r : Int} (h0 : y ≠ 0) (hq : x / y = q) (hr : x % y = r) (s t u v : ByteArray) (hs : rep x = s) (ht : rep y = t) (hu : rep q = u) (hv : rep r = v) (w : World) : Calls Tryz.prog 67 #[.string s, .string t] w (TwoB u v 0 w) := by
  subst hs; subst ht; subst hu; subst hv
  have h := refDivMod_any (rep x) (rep y) (rep_small hx) (rep_small hy) w
  rw [dmS_rep hx hy h0 hq hr] at h
  exact h
theorem refgcd_rep {g : Int} (hg : ((Nat.gcd x.natAbs y.natAbs : Nat) : Int) = g) (s t u : ByteArray) (hs : rep x = s) (ht : rep y = t) (hu : rep g = u) (w : World) : Calls Tryz.prog 64 #[.string s, .string t] w (GcdR u w) := by
  subst hs; subst ht; subst hu
  have h := refGcd_any (rep x) (rep y) (rep_small hx) (rep_small hy) w
  rw [gcS_rep hx hy hg] at h
  exact h
end
theorem refneg_rep {x : Int} (hx : x.natAbs < lim) (s u : ByteArray) (hs : rep x = s) (hu : rep (-x) = u) (w : World) : Calls Tryz.prog 124 #[.string s] w (StrR u w) := by
  subst hs; subst hu
  have h := negative_any (rep x) (chk_of_abs hx) (rep_small hx) w
  rw [rep_data, num_itoa] at h
  exact h
theorem qN_neg {x y : Int} (h : y < 0) : (-x) / ((Nat.gcd (-x).natAbs (-y).natAbs : Nat) : Int) = qN x y := by
  unfold qN qG
  rw [if_pos h, Int.natAbs_neg, Int.natAbs_neg, Int.ediv_neg, Int.neg_ediv_of_dvd (Int.ofNat_dvd_left.2 (Nat.gcd_dvd_left _ _))]
theorem qD_neg {x y : Int} (h : y < 0) : (-y) / ((Nat.gcd (-x).natAbs (-y).natAbs : Nat) : Int) = qD x y := by
  unfold qD qG
  rw [if_pos h, Int.natAbs_neg, Int.natAbs_neg, Int.ediv_neg, Int.neg_ediv_of_dvd (Int.ofNat_dvd_left.2 (Nat.gcd_dvd_right _ _))]
theorem ret_sl {a b : ByteArray} (h : a = b) (c : Int) : Ending.returned (.tuple #[.string a, .int .i64 c]) = .returned (.tuple #[.string b, .int .i64 c]) := by rw [h]

set_option maxRecDepth 100000 in
set_option maxHeartbeats 3200000 in
theorem refMake_any (s t : ByteArray) (hs : s.size ≤ 1099511627776) (ht : t.size ≤ 1099511627776) (w : World) :
    Calls Tryz.prog 100 #[.string s, .string t] w fun e w' => e = .returned (.tuple #[.string ⟨(mkS s.data.toList t.data.toList).1.toArray⟩, .int .i64 (mkS s.data.toList t.data.toList).2]) ∧ Below w.heap.size w w' := by
  have HB := Lib.hid (both_any s t hs ht w)
  by_cases hb : bothE s.data.toList t.data.toList = 0
  · obtain ⟨hx, hy⟩ := bothE_zero hb
    rw [hb] at HB
    by_cases h0 : num t.data.toList = 0
    · have e0 : (t.toList == [48]) = true := by rw [Lib.toList_data, itoa_zero_num _ hy, h0, itoa_zero]; rfl
      rw [mkS_zero hb h0]
      clear hx hy hb hs ht h0
      go_enter Tryz.func100, Tryz.ntmps100
      go_wp2_with (go_at_call 95; refine HB.out.mono ?_; rintro e w1 ⟨rfl, b1⟩)
      go_ret2
      exact ⟨rfl, b1⟩
    · have e0 : (t.toList == [48]) = false := by
        rw [Lib.toList_data, beq_eq_false_iff_ne]
        intro h
        rw [h] at h0
        exact h0 (by decide +kernel)
      rw [mkS_ok hb h0]
      have Lx := abs_of_chk hx
      have Ly := abs_of_chk hy
      have rs := (rep_num s hx).symm
      have rt := (rep_num t hy).symm
      generalize num s.data.toList = x at *
      generalize num t.data.toList = y at *
      obtain ⟨u, hu⟩ : ∃ r, rep (qN x y) = r := ⟨_, rfl⟩
      obtain ⟨v, hd⟩ : ∃ r, rep (qD x y) = r := ⟨_, rfl⟩
      have hu1 : u.size ≤ 1001 := by rw [← hu]; exact rep_short (qN_abs Lx)
      have hd1 : v.size ≤ 1001 := by rw [← hd]; exact rep_short (qD_abs Ly)
      have hz1 : ¬ 9223372036854775807 < u.size + 1 := by omega
      have hz2 : ¬ 9223372036854775807 < u.size + 1 + v.size := by omega
      have hul : u.data.toList = Lib.itoa (qN x y) := by rw [← hu]; rfl
      have hdl : v.data.toList = Lib.itoa (qD x y) := by rw [← hd]; rfl
      have HT : Hid ((v.toList == [49]) = true → u = ⟨(txtL (Lib.itoa (qN x y)) (Lib.itoa (qD x y))).toArray⟩) := by
        intro h
        have h2 : v.data.toList = [49] := by rw [← Lib.toList_data]; simpa using h
        unfold txtL
        rw [← hdl, if_pos h2, ← hul]
      have HU : Hid ((v.toList == [49]) = false → u ++ (⟨#[47]⟩ : ByteArray) ++ v = ⟨(txtL (Lib.itoa (qN x y)) (Lib.itoa (qD x y))).toArray⟩) := by
        intro h
        have h2 : ¬ v.data.toList = [49] := by rw [← Lib.toList_data]; simpa using h
        unfold txtL
        rw [← hdl, if_neg h2, ← hul]
        exact cat_slash u v
      generalize txtL (Lib.itoa (qN x y)) (Lib.itoa (qD x y)) = r at *
      have hgp : 0 < Nat.gcd x.natAbs y.natAbs := Nat.gcd_pos_of_pos_right _ (by omega)
      have hgl : (Nat.gcd x.natAbs y.natAbs) ≤ y.natAbs := Nat.gcd_le_right _ (by omega)
      clear hul hdl
      by_cases hneg : y < 0
      · obtain ⟨s1, r1⟩ : ∃ r, rep (-x) = r := ⟨_, rfl⟩
        obtain ⟨t1, r2⟩ : ∃ r, rep (-y) = r := ⟨_, rfl⟩
        obtain ⟨⟨q0, q1⟩, _⟩ := rep_neg_byte y hneg t t1 rt r2
        have C1 := Lib.hid (refneg_rep Lx _ _ rs r1)
        have C2 := Lib.hid (refneg_rep Ly _ _ rt r2)
        have Lx' : (-x).natAbs < lim := by rw [Int.natAbs_neg]; exact Lx
        have Ly' : (-y).natAbs < lim := by rw [Int.natAbs_neg]; exact Ly
        obtain ⟨sg, rg⟩ : ∃ r, rep ((Nat.gcd (-x).natAbs (-y).natAbs : Nat) : Int) = r := ⟨_, rfl⟩
        have LG : ((Nat.gcd (-x).natAbs (-y).natAbs : Nat) : Int).natAbs < lim := by rw [Int.natAbs_natCast, Int.natAbs_neg, Int.natAbs_neg]; omega
        have hg0 : ((Nat.gcd (-x).natAbs (-y).natAbs : Nat) : Int) ≠ 0 := by rw [Int.natAbs_neg, Int.natAbs_neg]; omega
        have C3 := Lib.hid (refgcd_rep Lx' Ly' rfl _ _ _ r1 r2 rg)
        obtain ⟨m1, e1⟩ : ∃ r, rep ((-x) % ((Nat.gcd (-x).natAbs (-y).natAbs : Nat) : Int)) = r := ⟨_, rfl⟩
        obtain ⟨m2, e2⟩ : ∃ r, rep ((-y) % ((Nat.gcd (-x).natAbs (-y).natAbs : Nat) : Int)) = r := ⟨_, rfl⟩
        have C4 := Lib.hid (refdm_rep Lx' LG hg0 (qN_neg hneg) rfl _ _ _ _ r1 rg hu e1)
        have C5 := Lib.hid (refdm_rep Ly' LG hg0 (qD_neg hneg) rfl _ _ _ _ r2 rg hd e2)
        clear hx hy hb hs ht h0 Lx Ly hu hd rs rt r1 r2 Lx' Ly' rg LG hg0 e1 e2 hgp hgl hneg hu1 hd1
        cases hv1 : (v.toList == [49])
        all_goals
          have HS := Lib.hid hv1
          go_enter Tryz.func100, Tryz.ntmps100
          go_wp2_with (first
            | (go_at_call 95; refine HB.out.mono ?_; rintro e w1 ⟨rfl, b1⟩)
            | (go_at_call 124; (with_reducible refine (C1.out _).mono ?_); rintro e w2 ⟨rfl, b⟩; have b2 := bt b1 b; clear b)
            | (go_at_call 124; (with_reducible refine (C2.out _).mono ?_); rintro e w3 ⟨rfl, b⟩; have b3 := bt b2 b; clear b)
            | (go_at_call 64; refine (C3.out _).mono ?_; rintro e w4 ⟨rfl, b⟩; have b4 := bt b3 b; clear b)
            | (go_at_call 67; (with_reducible refine (C4.out _).mono ?_); rintro e w5 ⟨rfl, b⟩; have b5 := bt b4 b; clear b)
            | (go_at_call 67; (with_reducible refine (C5.out _).mono ?_); rintro e w6 ⟨rfl, b⟩; have b6 := bt b5 b; clear b))
          go_ret2
          first
            | exact ⟨ret_sl (HT.out HS.out) _, b6⟩
            | exact ⟨ret_sl (HU.out HS.out) _, b6⟩
      · obtain ⟨q0, q1⟩ := rep_pos_byte y (by omega) t rt
        obtain ⟨sg, rg⟩ : ∃ r, rep ((Nat.gcd x.natAbs y.natAbs : Nat) : Int) = r := ⟨_, rfl⟩
        have eG : qG x y = ((Nat.gcd x.natAbs y.natAbs : Nat) : Int) := by unfold qG; rw [if_neg hneg]
        have LG : ((Nat.gcd x.natAbs y.natAbs : Nat) : Int).natAbs < lim := by rw [Int.natAbs_natCast]; omega
        have hg0 : ((Nat.gcd x.natAbs y.natAbs : Nat) : Int) ≠ 0 := by omega
        have C3 := Lib.hid (refgcd_rep Lx Ly rfl _ _ _ rs rt rg)
        obtain ⟨m1, e1⟩ : ∃ r, rep (x % ((Nat.gcd x.natAbs y.natAbs : Nat) : Int)) = r := ⟨_, rfl⟩
        obtain ⟨m2, e2⟩ : ∃ r, rep (y % ((Nat.gcd x.natAbs y.natAbs : Nat) : Int)) = r := ⟨_, rfl⟩
        have C4 := Lib.hid (refdm_rep Lx LG hg0 (q := qN x y) (by unfold qN; rw [eG]) rfl _ _ _ _ rs rg hu e1)
        have C5 := Lib.hid (refdm_rep Ly LG hg0 (q := qD x y) (by unfold qD; rw [eG]) rfl _ _ _ _ rt rg hd e2)
        clear hx hy hb hs ht h0 Lx Ly hu hd rs rt rg LG hg0 e1 e2 hgp hgl hneg hu1 hd1 eG
        cases hv1 : (v.toList == [49])
        all_goals
          have HS := Lib.hid hv1
          go_enter Tryz.func100, Tryz.ntmps100
          go_wp2_with (first
            | (go_at_call 95; refine HB.out.mono ?_; rintro e w1 ⟨rfl, b1⟩)
            | (go_at_call 64; refine (C3.out _).mono ?_; rintro e w4 ⟨rfl, b⟩; have b4 := bt b1 b; clear b)
            | (go_at_call 67; (with_reducible refine (C4.out _).mono ?_); rintro e w5 ⟨rfl, b⟩; have b5 := bt b4 b; clear b)
            | (go_at_call 67; (with_reducible refine (C5.out _).mono ?_); rintro e w6 ⟨rfl, b⟩; have b6 := bt b5 b; clear b))
          go_ret2
          first
            | exact ⟨ret_sl (HT.out HS.out) _, b6⟩
            | exact ⟨ret_sl (HU.out HS.out) _, b6⟩
  · rw [mkS_err hb]
    obtain ⟨x, hx⟩ : ∃ x, bothE s.data.toList t.data.toList = x := ⟨_, rfl⟩
    rw [hx] at HB hb ⊢
    have h1 : (x == 0) = false := by rw [beq_eq_false_iff_ne]; exact hb
    have h2 : (x != 0) = true := by rw [bne_iff_ne]; exact hb
    clear hb hx hs ht
    go_enter Tryz.func100, Tryz.ntmps100
    go_wp2_with (go_at_call 95; refine HB.out.mono ?_; rintro e w1 ⟨rfl, b1⟩)
    go_ret2
    exact ⟨rfl, b1⟩
end Go.Proofs.YtgjhgkglfflmjaaGreatDoor

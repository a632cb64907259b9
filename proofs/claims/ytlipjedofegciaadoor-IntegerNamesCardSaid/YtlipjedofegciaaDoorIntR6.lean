/- The walks of the reference of layer 1: the functions that the chapter lists. -/
import Derived.Test.YtlipjedofegciaaDoorIntR5
namespace Go.Proofs.YtlipjedofegciaaDoor
open Go Go.RowKit

theorem refAdd_any (s t : ByteArray) (hs : s.size ≤ 1099511627776) (ht : t.size ≤ 1099511627776) (w : World) :
    Calls Tryd.prog 24 #[.string s, .string t] w fun e w' => e = .returned (.tuple #[.string ⟨(opS (· + ·) s.data.toList t.data.toList).1.toArray⟩, .int .i64 (opS (· + ·) s.data.toList t.data.toList).2]) ∧ Below w.heap.size w w' := by
  by_cases h : bothE s.data.toList t.data.toList = 0
  · exact refAdd_ok s t hs ht h _ (by rw [opS_ok h]) w
  · rw [opS_err h]; exact refAdd_err s t hs ht h w

set_option maxHeartbeats 800000 in
theorem refSub_any (s t : ByteArray) (hs : s.size ≤ 1099511627776) (ht : t.size ≤ 1099511627776) (w : World) :
    Calls Tryd.prog 25 #[.string s, .string t] w fun e w' => e = .returned (.tuple #[.string ⟨(opS (· - ·) s.data.toList t.data.toList).1.toArray⟩, .int .i64 (opS (· - ·) s.data.toList t.data.toList).2]) ∧ Below w.heap.size w w' := by
  have HB := Lib.hid (both_any s t hs ht w)
  by_cases h : bothE s.data.toList t.data.toList = 0
  · rw [opS_ok h]
    rw [h] at HB
    obtain ⟨h1, h2⟩ := bothE_zero h
    have HN := Lib.hid (negative_any t h2 ht)
    have ha := abs_of_chk h2
    have hcn : chk (Lib.itoa (-(num t.data.toList))) = 0 := chk_of_abs (by rw [Int.natAbs_neg]; exact ha)
    have hbn : bothE s.data.toList (Lib.itoa (-(num t.data.toList))) = 0 := by unfold bothE; rw [if_pos h1]; exact hcn
    have HA := Lib.hid (refAdd_ok s ⟨(Lib.itoa (-(num t.data.toList))).toArray⟩ hs (by have := len_of_chk hcn; show (Lib.itoa (-(num t.data.toList))).length ≤ _; omega) hbn _ rfl)
    have en : num s.data.toList + num (Lib.itoa (-(num t.data.toList))) = num s.data.toList - num t.data.toList := by rw [num_itoa]; omega
    have HA2 : Hid (∀ W, Calls Tryd.prog 24 #[.string s, .string ⟨(Lib.itoa (-(num t.data.toList))).toArray⟩] W fun e w' => e = .returned (.tuple #[.string ⟨(limS (num s.data.toList - num t.data.toList)).1.toArray⟩, .int .i64 (limS (num s.data.toList - num t.data.toList)).2]) ∧ Below W.heap.size W w') := by
      rw [← en]; exact HA.out
    clear HA en hbn hcn ha h1 h2 h hs ht
    generalize limS (num s.data.toList - num t.data.toList) = R at HA2 ⊢
    generalize Lib.itoa (-(num t.data.toList)) = l at HA2 HN
    go_enter Tryd.func25, Tryd.ntmps25
    go_wp2_with (first
      | (go_at_call 58; refine HB.out.mono ?_; rintro e w1 ⟨rfl, hb1⟩)
      | (go_at_call 64; refine (HN.out _).mono ?_; rintro e w2 ⟨rfl, hb2⟩)
      | (go_at_call 24; refine (HA2.out _).mono ?_; rintro e w3 ⟨rfl, hb3⟩))
    go_ret2
    exact ⟨rfl, bt (bt hb1 hb2) hb3⟩
  · rw [opS_err h]
    obtain ⟨x, hx⟩ : ∃ x, bothE s.data.toList t.data.toList = x := ⟨_, rfl⟩
    rw [hx] at HB h ⊢
    have h1 : (x == 0) = false := by rw [beq_eq_false_iff_ne]; exact h
    have h2 : (x != 0) = true := by rw [bne_iff_ne]; exact h
    clear h hx
    go_enter Tryd.func25, Tryd.ntmps25
    go_wp2_with (go_at_call 58; refine HB.out.mono ?_; rintro e w1 ⟨rfl, hb1⟩)
    go_ret2
    exact ⟨rfl, hb1⟩

theorem sgn_mul (g k : Bool) (x y : Nat) : sgn g x * sgn k y = sgn (g != k) (x * y) := by cases g <;> cases k <;> simp [sgn, Int.neg_mul, Int.mul_neg]
set_option maxHeartbeats 800000 in
theorem refMul_any (s t : ByteArray) (hs : s.size ≤ 1099511627776) (ht : t.size ≤ 1099511627776) (w : World) :
    Calls Tryd.prog 26 #[.string s, .string t] w fun e w' => e = .returned (.tuple #[.string ⟨(opS (· * ·) s.data.toList t.data.toList).1.toArray⟩, .int .i64 (opS (· * ·) s.data.toList t.data.toList).2]) ∧ Below w.heap.size w w' := by
  have HB := Lib.hid (both_any s t hs ht w)
  by_cases h : bothE s.data.toList t.data.toList = 0
  · rw [opS_ok h]
    rw [h] at HB
    obtain ⟨h1, h2⟩ := bothE_zero h
    have HD := Lib.hid (digits_can s h1 hs)
    have HE := Lib.hid (digits_can t h2 ht)
    obtain ⟨R, hR⟩ : ∃ R, limS (num s.data.toList * num t.data.toList) = R := ⟨_, rfl⟩
    rw [hR]
    obtain ⟨x, hx⟩ : ∃ x, num s.data.toList = x := ⟨_, rfl⟩
    obtain ⟨y, hy⟩ : ∃ y, num t.data.toList = y := ⟨_, rfl⟩
    obtain ⟨g, hg⟩ : ∃ g, ngB s.data.toList = g := ⟨_, rfl⟩
    obtain ⟨k, hk⟩ : ∃ k, ngB t.data.toList = k := ⟨_, rfl⟩
    rw [hx, hg] at HD
    rw [hy, hk] at HE
    rw [hx, hy] at hR
    clear hx hy hg hk h h1 h2 hs ht
    have HR := Lib.hid hR
    clear hR
    cases g <;> cases k
    all_goals
      go_enter Tryd.func26, Tryd.ntmps26
      go_wp2_with (first
        | (go_at_call 58; refine HB.out.mono ?_; rintro e w1 ⟨rfl, hb1⟩)
        | (go_at_call 59; (with_reducible refine (HD.out _).mono ?_); rintro e w2 ⟨A, c, xs, rfl, hS, hd, hl, hn, hb2⟩; have HD1 := Lib.hid hd; have HN1 := Lib.hid hn; clear hd hn)
        | (go_at_call 59; (with_reducible refine (HE.out _).mono ?_); rintro e w3 ⟨B, d, ys, rfl, hS', hd', hl', hn', hb3⟩; have HD2 := Lib.hid hd'; have HN2 := Lib.hid hn'; clear hd' hn')
        | (go_at_call 65; refine (times_any _ _ _ _ _ _ _ (hS.below hb3) hS' HD1.out HD2.out (by omega) (by omega)).mono ?_; rintro e w4 ⟨v, os, rfl, hown, hb4, hlen, hd4, hv4⟩; obtain ⟨C, c4, rfl, hS4⟩ := own_sl hown; have HD4 := Lib.hid hd4; have HN4 := Lib.hid hv4; have hlen4 := Nat.le_of_eq hlen; clear hd4 hv4 hown hlen)
        | (go_at_call 60; refine (result_any _ _ _ _ HD4.out (by omega) R (by rw [HN4.out]; exact (congrArg limS (by rw [HN1.out, HN2.out, sgn_mul]; rfl)).trans HR.out) _ hS4).mono ?_; rintro e w5 ⟨rfl, hb5⟩))
      go_ret2
      exact ⟨rfl, bt (bt (bt (bt hb1 hb2) hb3) hb4) hb5⟩
  · rw [opS_err h]
    obtain ⟨x, hx⟩ : ∃ x, bothE s.data.toList t.data.toList = x := ⟨_, rfl⟩
    rw [hx] at HB h ⊢
    have h1 : (x == 0) = false := by rw [beq_eq_false_iff_ne]; exact h
    have h2 : (x != 0) = true := by rw [bne_iff_ne]; exact h
    clear h hx
    go_enter Tryd.func26, Tryd.ntmps26
    go_wp2_with (go_at_call 58; refine HB.out.mono ?_; rintro e w1 ⟨rfl, hb1⟩)
    go_ret2
    exact ⟨rfl, hb1⟩

theorem cmp_pp (x y : Nat) : cmpZ (sgn false x) (sgn false y) = cmpN x y := by
  unfold cmpZ cmpN sgn; simp only [Bool.false_eq_true, if_false]
  rcases Nat.lt_trichotomy x y with h | h | h
  · rw [if_pos (by omega), if_neg (by omega), if_pos h]
  · rw [if_neg (by omega), if_neg (by omega), if_neg (by omega), if_neg (by omega)]
  · rw [if_neg (by omega), if_pos (by omega), if_pos h]
theorem cmp_nn (x y : Nat) : cmpZ (sgn true x) (sgn true y) = cmpN y x := by
  unfold cmpZ cmpN sgn; simp only [if_true]
  rcases Nat.lt_trichotomy x y with h | h | h
  · rw [if_neg (by omega), if_pos (by omega), if_pos h]
  · rw [if_neg (by omega), if_neg (by omega), if_neg (by omega), if_neg (by omega)]
  · rw [if_pos (by omega), if_neg (by omega), if_pos h]
set_option maxHeartbeats 800000 in
theorem refCompare_any (s t : ByteArray) (hs : s.size ≤ 1099511627776) (ht : t.size ≤ 1099511627776) (w : World) :
    Calls Tryd.prog 27 #[.string s, .string t] w fun e w' => e = .returned (.tuple #[.int .i64 (cmpS s.data.toList t.data.toList).1, .int .i64 (cmpS s.data.toList t.data.toList).2]) ∧ Below w.heap.size w w' := by
  have HB := Lib.hid (both_any s t hs ht w)
  unfold cmpS
  by_cases h : bothE s.data.toList t.data.toList = 0
  · rw [if_pos h]
    rw [h] at HB
    obtain ⟨h1, h2⟩ := bothE_zero h
    have HD := Lib.hid (digits_can s h1 hs)
    have HE := Lib.hid (digits_can t h2 ht)
    obtain ⟨p1, p2⟩ := ng_num h1
    obtain ⟨q1, q2⟩ := ng_num h2
    obtain ⟨x, hx⟩ : ∃ x, num s.data.toList = x := ⟨_, rfl⟩
    obtain ⟨y, hy⟩ : ∃ y, num t.data.toList = y := ⟨_, rfl⟩
    obtain ⟨g, hg⟩ : ∃ g, ngB s.data.toList = g := ⟨_, rfl⟩
    obtain ⟨k, hk⟩ : ∃ k, ngB t.data.toList = k := ⟨_, rfl⟩
    rw [hx, hg] at HD
    rw [hy, hk] at HE
    rw [hx, hg] at p1 p2
    rw [hy, hk] at q1 q2
    rw [hx, hy]
    clear hx hy hg hk h h1 h2 hs ht
    cases g <;> cases k
    · clear p1 p2 q1 q2
      go_enter Tryd.func27, Tryd.ntmps27
      go_wp2_with (first
        | (go_at_call 58; refine HB.out.mono ?_; rintro e w1 ⟨rfl, hb1⟩)
        | (go_at_call 59; (with_reducible refine (HD.out _).mono ?_); rintro e w2 ⟨A, c, xs, rfl, hS, hd, hl, hn, hb2⟩; have HD1 := Lib.hid hd; have HN1 := Lib.hid hn; clear hd hn)
        | (go_at_call 59; (with_reducible refine (HE.out _).mono ?_); rintro e w3 ⟨B, d, ys, rfl, hS', hd', hl', hn', hb3⟩; have HD2 := Lib.hid hd'; have HN2 := Lib.hid hn'; clear hd' hn')
        | (go_at_call 62; refine (greater_any _ _ _ _ _ _ _ (hS.below hb3) hS' HD1.out HD2.out (by omega) (by omega)).mono ?_; rintro e w4 ⟨rfl, rfl⟩))
      go_ret2
      exact ⟨by rw [HN1.out, HN2.out, cmp_pp]; rfl, bt (bt hb1 hb2) hb3⟩
    · have hc : Hid (cmpZ x y = 1) := by
        have := p2 rfl; have := q1 rfl
        show _ = _; unfold cmpZ; rw [if_neg (by omega), if_pos (by omega)]
      clear p1 p2 q1 q2
      go_enter Tryd.func27, Tryd.ntmps27
      go_wp2_with (first
        | (go_at_call 58; refine HB.out.mono ?_; rintro e w1 ⟨rfl, hb1⟩)
        | (go_at_call 59; (with_reducible refine (HD.out _).mono ?_); rintro e w2 ⟨A, c, xs, rfl, hS, hd, hl, hn, hb2⟩; clear hd hn)
        | (go_at_call 59; (with_reducible refine (HE.out _).mono ?_); rintro e w3 ⟨B, d, ys, rfl, hS', hd', hl', hn', hb3⟩; clear hd' hn'))
      go_ret2
      exact ⟨by rw [hc.out]; rfl, bt (bt hb1 hb2) hb3⟩
    · have hc : Hid (cmpZ x y = -1) := by
        have := p1 rfl; have := q2 rfl
        show _ = _; unfold cmpZ; rw [if_pos (by omega)]
      clear p1 p2 q1 q2
      go_enter Tryd.func27, Tryd.ntmps27
      go_wp2_with (first
        | (go_at_call 58; refine HB.out.mono ?_; rintro e w1 ⟨rfl, hb1⟩)
        | (go_at_call 59; (with_reducible refine (HD.out _).mono ?_); rintro e w2 ⟨A, c, xs, rfl, hS, hd, hl, hn, hb2⟩; clear hd hn)
        | (go_at_call 59; (with_reducible refine (HE.out _).mono ?_); rintro e w3 ⟨B, d, ys, rfl, hS', hd', hl', hn', hb3⟩; clear hd' hn'))
      go_ret2
      exact ⟨by rw [hc.out]; rfl, bt (bt hb1 hb2) hb3⟩
    · clear p1 p2 q1 q2
      go_enter Tryd.func27, Tryd.ntmps27
      go_wp2_with (first
        | (go_at_call 58; refine HB.out.mono ?_; rintro e w1 ⟨rfl, hb1⟩)
        | (go_at_call 59; (with_reducible refine (HD.out _).mono ?_); rintro e w2 ⟨A, c, xs, rfl, hS, hd, hl, hn, hb2⟩; have HD1 := Lib.hid hd; have HN1 := Lib.hid hn; clear hd hn)
        | (go_at_call 59; (with_reducible refine (HE.out _).mono ?_); rintro e w3 ⟨B, d, ys, rfl, hS', hd', hl', hn', hb3⟩; have HD2 := Lib.hid hd'; have HN2 := Lib.hid hn'; clear hd' hn')
        | (go_at_call 62; refine (greater_any _ _ _ _ _ _ _ hS' (hS.below hb3) HD2.out HD1.out (by omega) (by omega)).mono ?_; rintro e w4 ⟨rfl, rfl⟩))
      go_ret2
      exact ⟨by rw [HN1.out, HN2.out, cmp_nn]; rfl, bt (bt hb1 hb2) hb3⟩
  · rw [if_neg h]
    obtain ⟨x, hx⟩ : ∃ x, bothE s.data.toList t.data.toList = x := ⟨_, rfl⟩
    rw [hx] at HB h ⊢
    have h1 : (x == 0) = false := by rw [beq_eq_false_iff_ne]; exact h
    have h2 : (x != 0) = true := by rw [bne_iff_ne]; exact h
    clear h hx
    go_enter Tryd.func27, Tryd.ntmps27
    go_wp2_with (go_at_call 58; refine HB.out.mono ?_; rintro e w1 ⟨rfl, hb1⟩)
    go_ret2
    exact ⟨rfl, hb1⟩
end Go.Proofs.YtlipjedofegciaaDoor

/- The walks of the reference of layer 1: integers. -/
import Derived.Test.YtlipjedofegciaaDoorIntR3
namespace Go.Proofs.YtlipjedofegciaaDoor
open Go Go.RowKit

theorem digits_can (s : ByteArray) (h : chk s.data.toList = 0) (hlen : s.size ≤ 1099511627776) (w : World) :
    Calls Tryd.prog 59 #[.string s] w fun e w' => ∃ A c xs, e = .returned (.tuple #[.slice A xs.length c, .bool (ngB s.data.toList), .bool true]) ∧ SlA encI w' A xs ∧ (∀ d ∈ xs, d < 10) ∧ xs.length ≤ 1000 ∧ num s.data.toList = sgn (ngB s.data.toList) (vl 10 xs) ∧ Below w.heap.size w w' := by
  refine (digits_yes s w (by rw [h]; decide) hlen).mono ?_
  rintro e w' ⟨v, rfl, hown, hb⟩
  obtain ⟨A, c, rfl, hn, hS⟩ := SlA.of_own hown
  obtain ⟨h1, h2⟩ := bod_len_of_chk h
  refine ⟨A, c, dgs (bod s.data.toList), by rw [dgs_length], hS, h2, by rw [dgs_length]; exact h1, rfl, hb⟩

theorem both_any (s t : ByteArray) (hs : s.size ≤ 1099511627776) (ht : t.size ≤ 1099511627776) (w : World) :
    Calls Tryd.prog 58 #[.string s, .string t] w fun e w' => e = .returned (.int .i64 (bothE s.data.toList t.data.toList)) ∧ Below w.heap.size w w' := by
  have CS := Lib.hid (fun W => refCheck_any s W hs)
  have CT := Lib.hid (fun W => refCheck_any t W ht)
  unfold bothE
  obtain ⟨x, hx⟩ : ∃ x, chk s.data.toList = x := ⟨_, rfl⟩
  obtain ⟨y, hy⟩ : ∃ y, chk t.data.toList = y := ⟨_, rfl⟩
  rw [hx] at CS ⊢
  rw [hy] at CT ⊢
  clear hx hy hs ht
  by_cases h0 : x = 0
  · subst h0
    rw [if_pos rfl]
    go_enter Tryd.func58, Tryd.ntmps58
    go_wp2_with (first | (go_at_call 28; (with_reducible refine (CS.out _).mono ?_); rintro e w1 ⟨rfl, hb1⟩) | (go_at_call 28; (with_reducible refine (CT.out _).mono ?_); rintro e w2 ⟨rfl, hb2⟩))
    go_ret
    exact ⟨rfl, bt hb1 hb2⟩
  · rw [if_neg h0]
    have h1 : (x == 0) = false := by rw [beq_eq_false_iff_ne]; exact h0
    have h2 : (x != 0) = true := by rw [bne_iff_ne]; exact h0
    clear h0
    go_enter Tryd.func58, Tryd.ntmps58
    go_wp2_with fail
    refine (CS.out _).mono ?_
    rintro e w1 ⟨rfl, hb1⟩
    go_wp2_with fail
    refine (CS.out _).mono ?_
    rintro e w2 ⟨rfl, hb2⟩
    go_wp2
    go_ret
    exact ⟨rfl, bt hb1 hb2⟩

theorem result_any (neg : Bool) (A : Option Addr) (ca : Nat) (xs : List Nat) (ha : ∀ d ∈ xs, d < 10) (hla : xs.length ≤ 549755813888) (R : List UInt8 × Int) (hR : limS (sgn neg (vl 10 xs)) = R) (w : World) (hA : SlA encI w A xs) :
    Calls Tryd.prog 60 #[.slice A xs.length ca, .bool neg] w fun e w' => e = .returned (.tuple #[.string ⟨R.1.toArray⟩, .int .i64 R.2]) ∧ Below w.heap.size w w' := by
  have HT := Lib.hid (text_any neg A ca xs w hA ha (by omega))
  have hl := itoa_len neg _ _ (vl_lt 10 xs ha)
  unfold limS at hR
  obtain ⟨z, hz⟩ : ∃ z, sgn neg (vl 10 xs) = z := ⟨_, rfl⟩
  rw [hz] at HT hR hl
  have HC := Lib.hid (fun W => refCheck_any ⟨(Lib.itoa z).toArray⟩ W (by show (Lib.itoa z).length ≤ _; omega))
  rw [chk_itoa] at HC
  obtain ⟨l, hl'⟩ : ∃ l, Lib.itoa z = l := ⟨_, rfl⟩
  rw [hl'] at HT HC hR
  clear hl hl' hz
  by_cases hb : z.natAbs < lim
  · rw [if_pos hb] at HC hR
    subst hR
    clear hb
    go_enter Tryd.func60, Tryd.ntmps60
    go_wp2_with (first | (go_at_call 68; refine HT.out.mono ?_; rintro e w1 ⟨rfl, hb1⟩) | (go_at_call 28; (with_reducible refine (HC.out _).mono ?_); rintro e w2 ⟨rfl, hb2⟩))
    go_ret2
    exact ⟨rfl, bt hb1 hb2⟩
  · rw [if_neg hb] at HC hR
    subst hR
    clear hb
    go_enter Tryd.func60, Tryd.ntmps60
    go_wp2_with (first | (go_at_call 68; refine HT.out.mono ?_; rintro e w1 ⟨rfl, hb1⟩) | (go_at_call 28; (with_reducible refine (HC.out _).mono ?_); rintro e w2 ⟨rfl, hb2⟩))
    go_ret2
    exact ⟨rfl, bt hb1 hb2⟩

theorem sgn_not (neg : Bool) (u : Nat) : sgn (!neg) u = -(sgn neg u) := by cases neg <;> simp [sgn]
theorem negative_any (s : ByteArray) (h : chk s.data.toList = 0) (hlen : s.size ≤ 1099511627776) (w : World) :
    Calls Tryd.prog 64 #[.string s] w fun e w' => e = .returned (.string ⟨(Lib.itoa (-(num s.data.toList))).toArray⟩) ∧ Below w.heap.size w w' := by
  have HD := Lib.hid (digits_can s h hlen)
  obtain ⟨z, hz⟩ : ∃ z, num s.data.toList = z := ⟨_, rfl⟩
  obtain ⟨g, hg⟩ : ∃ g, ngB s.data.toList = g := ⟨_, rfl⟩
  rw [hz, hg] at HD
  rw [hz]
  clear hz hg h
  go_enter Tryd.func64, Tryd.ntmps64
  go_wp2_with (first | (go_at_call 59; refine (HD.out _).mono ?_; rintro e w1 ⟨A, c, xs, rfl, hS, hd, hl, hn, hb1⟩; have HD1 := Lib.hid hd; have HN1 := Lib.hid hn; clear hd hn) | (go_at_call 68; refine (text_any _ _ _ _ _ hS HD1.out (by omega)).mono ?_; rintro e w2 ⟨rfl, hb2⟩))
  go_ret
  exact ⟨ret_str (by rw [sgn_not, ← HN1.out]), bt hb1 hb2⟩

theorem digitsOf_any (s : ByteArray) (h : chk s.data.toList = 0) (hlen : s.size ≤ 1099511627776) (w : World) :
    Calls Tryd.prog 69 #[.string s] w fun e w' => ∃ A c xs, e = .returned (.slice A xs.length c) ∧ SlA encI w' A xs ∧ (∀ d ∈ xs, d < 10) ∧ xs.length ≤ 1000 ∧ num s.data.toList = sgn (ngB s.data.toList) (vl 10 xs) ∧ Below w.heap.size w w' := by
  have HD := Lib.hid (digits_can s h hlen)
  go_enter Tryd.func69, Tryd.ntmps69
  go_wp2_with (go_at_call 59; refine (HD.out _).mono ?_; rintro e w1 ⟨A, c, xs, rfl, hS, hd, hl, hn, hb1⟩; have HD1 := Lib.hid hd; have HN1 := Lib.hid hn; clear hd hn)
  go_ret
  exact ⟨A, c, xs, rfl, hS, HD1.out, hl, HN1.out, hb1⟩

theorem sgn_add (g : Bool) (x y : Nat) : sgn g x + sgn g y = sgn g (x + y) := by cases g <;> simp [sgn] <;> omega
theorem sgn_mix (g : Bool) (x y : Nat) (h : y ≤ x) : sgn g x + sgn (!g) y = sgn g (x - y) := by cases g <;> simp [sgn] <;> omega
theorem sgn_mix' (g : Bool) (x y : Nat) (h : x ≤ y) : sgn g x + sgn (!g) y = sgn (!g) (y - x) := by cases g <;> simp [sgn] <;> omega
theorem own_sl {w : World} {base e : TypeId} {v : Value} {os : List Nat} (h : w.ownsRow base e 1 v os.length (os.map encI)) : ∃ A c, v = .slice A os.length c ∧ SlA encI w A os := by
  obtain ⟨A, c, h1, _, h2⟩ := SlA.of_own h
  exact ⟨A, c, h1, h2⟩

set_option maxHeartbeats 800000 in
theorem refAdd_err (s t : ByteArray) (hs : s.size ≤ 1099511627776) (ht : t.size ≤ 1099511627776) (h : ¬ bothE s.data.toList t.data.toList = 0) (w : World) :
    Calls Tryd.prog 24 #[.string s, .string t] w fun e w' => e = .returned (.tuple #[.string ⟨#[]⟩, .int .i64 (bothE s.data.toList t.data.toList)]) ∧ Below w.heap.size w w' := by
  have HB := Lib.hid (both_any s t hs ht w)
  obtain ⟨x, hx⟩ : ∃ x, bothE s.data.toList t.data.toList = x := ⟨_, rfl⟩
  rw [hx] at HB h ⊢
  have h1 : (x == 0) = false := by rw [beq_eq_false_iff_ne]; exact h
  have h2 : (x != 0) = true := by rw [bne_iff_ne]; exact h
  clear h hx
  go_enter Tryd.func24, Tryd.ntmps24
  go_wp2_with (go_at_call 58; refine HB.out.mono ?_; rintro e w1 ⟨rfl, hb1⟩)
  go_ret2
  exact ⟨rfl, hb1⟩

set_option maxHeartbeats 800000 in
theorem refAdd_ok (s t : ByteArray) (hs : s.size ≤ 1099511627776) (ht : t.size ≤ 1099511627776) (h : bothE s.data.toList t.data.toList = 0) (R : List UInt8 × Int) (hR : limS (num s.data.toList + num t.data.toList) = R) (w : World) :
    Calls Tryd.prog 24 #[.string s, .string t] w fun e w' => e = .returned (.tuple #[.string ⟨R.1.toArray⟩, .int .i64 R.2]) ∧ Below w.heap.size w w' := by
  have HB := Lib.hid (both_any s t hs ht w)
  rw [h] at HB
  obtain ⟨h1, h2⟩ := bothE_zero h
  have HD := Lib.hid (digits_can s h1 hs)
  have HE := Lib.hid (digits_can t h2 ht)
  obtain ⟨x, hx⟩ : ∃ x, num s.data.toList = x := ⟨_, rfl⟩
  obtain ⟨y, hy⟩ : ∃ y, num t.data.toList = y := ⟨_, rfl⟩
  obtain ⟨g, hg⟩ : ∃ g, ngB s.data.toList = g := ⟨_, rfl⟩
  obtain ⟨k, hk⟩ : ∃ k, ngB t.data.toList = k := ⟨_, rfl⟩
  rw [hx, hg] at HD
  rw [hy, hk] at HE
  rw [hx, hy] at hR
  clear hx hy hg hk h h1 h2 hs ht
  have HR := Lib.hid hR
  clear hR
  by_cases hgk : g = k
  · subst hgk
    have hbeq : (g == g) = true := by simp
    go_enter Tryd.func24, Tryd.ntmps24
    go_wp2_with (first
      | (go_at_call 58; refine HB.out.mono ?_; rintro e w1 ⟨rfl, hb1⟩)
      | (go_at_call 59; (with_reducible refine (HD.out _).mono ?_); rintro e w2 ⟨A, c, xs, rfl, hS, hd, hl, hn, hb2⟩; have HD1 := Lib.hid hd; have HN1 := Lib.hid hn; clear hd hn)
      | (go_at_call 59; (with_reducible refine (HE.out _).mono ?_); rintro e w3 ⟨B, d, ys, rfl, hS', hd', hl', hn', hb3⟩; have HD2 := Lib.hid hd'; have HN2 := Lib.hid hn'; clear hd' hn')
      | (go_at_call 61; refine (plus_any _ _ _ _ _ _ _ (hS.below hb3) hS' HD1.out HD2.out (by omega) (by omega)).mono ?_; rintro e w4 ⟨v, os, rfl, hown, hb4, hlen, hd4, hv4⟩; obtain ⟨C, c4, rfl, hS4⟩ := own_sl hown; have HD4 := Lib.hid hd4; have HN4 := Lib.hid hv4; have hlen4 := Nat.le_of_eq hlen; clear hd4 hv4 hown hlen)
      | (go_at_call 60; refine (result_any _ _ _ _ HD4.out (by omega) R (by rw [HN4.out, ← sgn_add, ← HN1.out, ← HN2.out]; exact HR.out) _ hS4).mono ?_; rintro e w5 ⟨rfl, hb5⟩))
    go_ret2
    exact ⟨rfl, bt (bt (bt (bt hb1 hb2) hb3) hb4) hb5⟩
  · obtain rfl : k = !g := by cases g <;> cases k <;> simp_all
    have hbeq : (g == !g) = false := by cases g <;> rfl
    clear hgk
    go_enter Tryd.func24, Tryd.ntmps24
    go_wp2_with (first
      | (go_at_call 58; refine HB.out.mono ?_; rintro e w1 ⟨rfl, hb1⟩)
      | (go_at_call 59; (with_reducible refine (HD.out _).mono ?_); rintro e w2 ⟨A, c, xs, rfl, hS, hd, hl, hn, hb2⟩; have HD1 := Lib.hid hd; have HN1 := Lib.hid hn; clear hd hn)
      | (go_at_call 59; (with_reducible refine (HE.out _).mono ?_); rintro e w3 ⟨B, d, ys, rfl, hS', hd', hl', hn', hb3⟩; have HD2 := Lib.hid hd'; have HN2 := Lib.hid hn'; clear hd' hn'))
    refine (greater_any _ _ _ _ _ _ _ (hS.below hb3) hS' HD1.out HD2.out (by omega) (by omega)).mono ?_
    rintro e w4 ⟨rfl, rfl⟩
    by_cases hle : vl 10 ys ≤ vl 10 xs
    · have hc : 0 ≤ cmpN (vl 10 xs) (vl 10 ys) := by unfold cmpN; split <;> (try split) <;> omega
      have HLE := Lib.hid hle
      clear hle
      generalize cmpN (vl 10 xs) (vl 10 ys) = r at hc ⊢
      go_wp2_with (first
        | (go_at_call 63; refine (minus_any _ _ _ _ _ _ _ (hS.below hb3) (hS') HD1.out HD2.out (by omega) HLE.out).mono ?_; rintro e w4 ⟨v, os, rfl, hown, hb4, hlen, hd4, hv4⟩; obtain ⟨C, c4, rfl, hS4⟩ := own_sl hown; have HD4 := Lib.hid hd4; have HN4 := Lib.hid hv4; have hlen4 := Nat.le_of_eq hlen; clear hd4 hv4 hown hlen)
        | (go_at_call 60; refine (result_any _ _ _ _ HD4.out (by omega) R (by rw [HN4.out, ← sgn_mix g _ _ HLE.out, ← HN1.out, ← HN2.out]; exact HR.out) _ hS4).mono ?_; rintro e w5 ⟨rfl, hb5⟩))
      go_ret2
      exact ⟨rfl, bt (bt (bt (bt hb1 hb2) hb3) hb4) hb5⟩
    · have hc : cmpN (vl 10 xs) (vl 10 ys) < 0 := by unfold cmpN; rw [if_neg (by omega), if_pos (by omega)]; omega
      have HLE : Hid (vl 10 xs ≤ vl 10 ys) := by show _ ≤ _; omega
      clear hle
      generalize cmpN (vl 10 xs) (vl 10 ys) = r at hc ⊢
      go_wp2_with (first
        | (go_at_call 63; refine (minus_any _ _ _ _ _ _ _ (hS') (hS.below hb3) HD2.out HD1.out (by omega) HLE.out).mono ?_; rintro e w4 ⟨v, os, rfl, hown, hb4, hlen, hd4, hv4⟩; obtain ⟨C, c4, rfl, hS4⟩ := own_sl hown; have HD4 := Lib.hid hd4; have HN4 := Lib.hid hv4; have hlen4 := Nat.le_of_eq hlen; clear hd4 hv4 hown hlen)
        | (go_at_call 60; refine (result_any _ _ _ _ HD4.out (by omega) R (by rw [HN4.out, ← sgn_mix' g _ _ HLE.out, ← HN1.out, ← HN2.out]; exact HR.out) _ hS4).mono ?_; rintro e w5 ⟨rfl, hb5⟩))
      go_ret2
      exact ⟨rfl, bt (bt (bt (bt hb1 hb2) hb3) hb4) hb5⟩

end Go.Proofs.YtlipjedofegciaaDoor

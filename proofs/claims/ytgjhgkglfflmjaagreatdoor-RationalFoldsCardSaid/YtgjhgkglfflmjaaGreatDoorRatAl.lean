/- The walks of the reference of layer 2: digits, Round. -/
import Derived.Test.YtgjhgkglfflmjaaGreatDoorRatAk
namespace Go.Proofs.YtgjhgkglfflmjaaGreatDoor
open Go Go.RowKit

/-- A list of digits of worth V. -/
def DgV (V : Nat) (w : World) (e : Ending) (w' : World) : Prop := ∃ A c xs, e = .returned (.slice A xs.length c) ∧ SlA encI w' A xs ∧ (∀ d ∈ xs, d < 10) ∧ xs.length ≤ 1000 ∧ vl 10 xs = V ∧ Below w.heap.size w w'
theorem digits2_raw (s : ByteArray) (h : chk s.data.toList = 0) (hlen : s.size ≤ 1099511627776) (w : World) :
    Calls Tryz.prog 69 #[.string s] w fun e w' => ∃ A c, e = .returned (.slice A (dgs (bod s.data.toList)).length c) ∧ SlA encI w' A (dgs (bod s.data.toList)) ∧ Below w.heap.size w w' := by
  have HD : Hid (∀ W, Calls Tryz.prog 62 #[.string s] W fun e w' => ∃ A c, e = .returned (.tuple #[.slice A (dgs (bod s.data.toList)).length c, .bool (ngB s.data.toList), .bool true]) ∧ SlA encI w' A (dgs (bod s.data.toList)) ∧ Below W.heap.size W w') := fun W => by
    refine (digits_yes s W (by rw [h]; decide) hlen).mono ?_
    rintro e w' ⟨v, rfl, hown, hb⟩
    obtain ⟨A, c, rfl, hn, hS⟩ := SlA.of_own hown
    exact ⟨A, c, by rw [dgs_length], hS, hb⟩
  clear h hlen
  generalize dgs (bod s.data.toList) = xs at *
  generalize ngB s.data.toList = g at *
  go_enter Tryz.func69, Tryz.ntmps69
  go_wp2_with (go_at_call 62; refine (HD.out _).mono ?_; rintro e w1 ⟨A, c, rfl, hS, hb1⟩; have HS := Lib.hid hS; clear hS)
  go_ret
  exact ⟨A, c, rfl, HS.out, hb1⟩
theorem digits2_any (s : ByteArray) (h : chk s.data.toList = 0) (hlen : s.size ≤ 1099511627776) (V : Nat) (hV : (num s.data.toList).natAbs = V) (w : World) :
    Calls Tryz.prog 69 #[.string s] w (DgV V w) := by
  refine (digits2_raw s h hlen w).mono ?_
  rintro e w' ⟨A, c, rfl, hS, hb⟩
  obtain ⟨h1, h2⟩ := bod_len_of_chk h
  exact ⟨A, c, _, rfl, hS, h2, by rw [dgs_length]; exact h1, by rw [← hV, num_natAbs], hb⟩
theorem bod_some {l : List UInt8} (h : chk l = 0) : 0 < (bod l).length := by
  rcases can_cases l (by rw [h]; decide) with rfl | ⟨hs, _⟩
  · decide
  · cases hb : bod l with
    | nil => rw [hb] at hs; cases hs
    | cons c r => simp
theorem digits2_nil (w : World) : Calls Tryz.prog 69 #[.string ⟨#[]⟩] w (DgV 0 w) := by
  have HD := Lib.hid (fun W => digits_no ⟨#[]⟩ W (by decide) (by decide))
  go_enter Tryz.func69, Tryz.ntmps69
  go_wp2_with (go_at_call 62; refine (HD.out _).mono ?_; rintro e w1 ⟨rfl, hb1⟩)
  go_ret
  exact ⟨none, 0, [], rfl, SlA.nil, by simp, by simp, rfl, hb1⟩
/-- The first digit, odd or not. -/
def DgF (odd : Bool) (w : World) (e : Ending) (w' : World) : Prop := ∃ (b o' n c : Nat) (x : Int), e = .returned (.slice (some ⟨b, o', none⟩) n c) ∧ 0 < n ∧ n ≤ 1000 ∧ w'.cell? ⟨b, o', none⟩ = some (.int .i64 x) ∧ w'.cell? ⟨b, o' + 0, none⟩ = some (.int .i64 x) ∧ 0 ≤ x ∧ x ≤ 9 ∧ (x % 2 == 1) = odd ∧ Below w.heap.size w w'
theorem digits2_first (s : ByteArray) (h : chk s.data.toList = 0) (hlen : s.size ≤ 1099511627776) (odd : Bool) (ho : decide (num s.data.toList % 2 = 1) = odd) (w : World) :
    Calls Tryz.prog 69 #[.string s] w (DgF odd w) := by
  have hV := num_natAbs s.data.toList
  have hne : 0 < (dgs (bod s.data.toList)).length := by rw [dgs_length]; exact bod_some h
  obtain ⟨h1, hd⟩ := bod_len_of_chk h
  rw [← dgs_length] at h1
  refine (digits2_raw s h hlen w).mono ?_
  rintro e w' ⟨A, c, rfl, hS, hb⟩
  generalize dgs (bod s.data.toList) = xs at *
  obtain ⟨b, o', rfl, _, hc⟩ := hS.get (j := 0) hne
  match xs, hne with
  | x :: r, _ =>
    have hx := hd x (by simp)
    refine ⟨b, o', _, _, (x : Int), rfl, by simp, h1, hc, hc, by omega, by omega, ?_, hb⟩
    rw [← ho]
    have e : vl 10 (x :: r) = x + 10 * vl 10 r := rfl
    rw [e] at hV
    by_cases h1 : (x : Int) % 2 = 1
    · rw [decide_eq_true (show num s.data.toList % 2 = 1 by omega)]; simpa using h1
    · rw [decide_eq_false (show ¬ num s.data.toList % 2 = 1 by omega)]; simpa using h1
theorem greater_of (A B : Option Addr) (ca cb : Nat) (xs ys : List Nat) (w : World) (hA : SlA encI w A xs) (hB : SlA encI w B ys) (ha : ∀ d ∈ xs, d < 10) (hb : ∀ d ∈ ys, d < 10) (hla : xs.length ≤ 1000) (hlb : ys.length ≤ 1000)
    (V D : Nat) (hV : vl 10 xs = V) (hD : vl 10 ys = D) (h : Int) (hh : cmpN V D = h) :
    Calls Tryz.prog 68 #[.slice A xs.length ca, .slice B ys.length cb] w (IntR h w) := by
  subst hV; subst hD; subst hh
  exact greater_any A B ca cb xs ys w hA hB ha hb (by omega) (by omega)

set_option maxRecDepth 100000 in
set_option maxHeartbeats 3200000 in
theorem rr_zero (s n d fl rs : ByteArray) (m : Int) (m0 : 0 ≤ m) (m4 : m ≤ 4) (w : World)
    (H1 : ∀ W, Calls Tryz.prog 27 #[.string s] W (IntB 0 W))
    (H2 : ∀ W, Calls Tryz.prog 61 #[.string s] W (TwoW n d W))
    (H3 : ∀ W, Calls Tryz.prog 67 #[.string n, .string d] W (TwoB fl rs 0 W))
    (hz : (rs.toList == [48]) = true) :
    Calls Tryz.prog 33 #[.string s, .int .u8 m] w (StE fl 0 w) := by
  have J1 := Lib.hid H1
  have J2 := Lib.hid H2
  have J3 := Lib.hid H3
  clear H1 H2 H3
  go_enter Tryz.func33, Tryz.ntmps33
  go_wp2_with (first
    | (go_at_call 27; (with_reducible refine (J1.out _).mono ?_); rintro e u1 ⟨rfl, b⟩; have D1 := Lib.hid b; clear b)
    | (go_at_call 61; (with_reducible refine (J2.out _).mono ?_); rintro e u2 ⟨rfl, b⟩; have D2 := Lib.hid (bt D1.out b); clear b)
    | (go_at_call 67; (with_reducible refine (J3.out _).mono ?_); rintro e u3 ⟨rfl, b⟩; have D3 := Lib.hid (bt D2.out b); clear b))
  go_ret2
  exact ⟨rfl, D3.out⟩
set_option maxRecDepth 100000 in
set_option maxHeartbeats 3200000 in
theorem rr_4 (s n d fl rs : ByteArray) (w : World)
    (H1 : ∀ W, Calls Tryz.prog 27 #[.string s] W (IntB 0 W))
    (H2 : ∀ W, Calls Tryz.prog 61 #[.string s] W (TwoW n d W))
    (H3 : ∀ W, Calls Tryz.prog 67 #[.string n, .string d] W (TwoB fl rs 0 W))
    (hz : (rs.toList == [48]) = false) :
    Calls Tryz.prog 33 #[.string s, .int .u8 4] w (StE fl 0 w) := by
  have J1 := Lib.hid H1
  have J2 := Lib.hid H2
  have J3 := Lib.hid H3
  clear H1 H2 H3
  go_enter Tryz.func33, Tryz.ntmps33
  go_wp2_with (first
    | (go_at_call 27; (with_reducible refine (J1.out _).mono ?_); rintro e u1 ⟨rfl, b⟩; have D1 := Lib.hid b; clear b)
    | (go_at_call 61; (with_reducible refine (J2.out _).mono ?_); rintro e u2 ⟨rfl, b⟩; have D2 := Lib.hid (bt D1.out b); clear b)
    | (go_at_call 67; (with_reducible refine (J3.out _).mono ?_); rintro e u3 ⟨rfl, b⟩; have D3 := Lib.hid (bt D2.out b); clear b))
  go_ret2
  exact ⟨rfl, D3.out⟩
set_option maxRecDepth 100000 in
set_option maxHeartbeats 3200000 in
theorem rr_0_n_o (s n d fl rs tw up : ByteArray) (V D : Nat) (f h : Int) (w : World)
    (H1 : ∀ W, Calls Tryz.prog 27 #[.string s] W (IntB 0 W))
    (H2 : ∀ W, Calls Tryz.prog 61 #[.string s] W (TwoW n d W))
    (H3 : ∀ W, Calls Tryz.prog 67 #[.string n, .string d] W (TwoB fl rs 0 W))
    (hz : (rs.toList == [48]) = false)
    (H4 : ∀ W, Calls Tryz.prog 57 #[.string ⟨#[50]⟩, .string rs] W (StE tw f W))
    (H5 : ∀ W, Calls Tryz.prog 69 #[.string tw] W (DgV V W))
    (H6 : ∀ W, Calls Tryz.prog 69 #[.string d] W (DgV D W))
    (hh : cmpN V D = h)
    (ht : (tw.toList == []) = true)
    (H7 : ∀ W, Calls Tryz.prog 56 #[.string fl, .string ⟨#[49]⟩] W (StE up 0 W))
    (n0 : 0 < n.size)
    (n1 : ((n[0].toNat : Int) == 45) = true) :
    Calls Tryz.prog 33 #[.string s, .int .u8 0] w (StE up 0 w) := by
  have J1 := Lib.hid H1
  have J2 := Lib.hid H2
  have J3 := Lib.hid H3
  have J4 := Lib.hid H4
  have J5 := Lib.hid H5
  have J6 := Lib.hid H6
  have HH := Lib.hid hh
  have J7 := Lib.hid H7
  clear H1 H2 H3 H4 H5 H6 hh H7
  go_enter Tryz.func33, Tryz.ntmps33
  go_wp2_with (first
    | (go_at_call 27; (with_reducible refine (J1.out _).mono ?_); rintro e u1 ⟨rfl, b⟩; have D1 := Lib.hid b; clear b)
    | (go_at_call 61; (with_reducible refine (J2.out _).mono ?_); rintro e u2 ⟨rfl, b⟩; have D2 := Lib.hid (bt D1.out b); clear b)
    | (go_at_call 67; (with_reducible refine (J3.out _).mono ?_); rintro e u3 ⟨rfl, b⟩; have D3 := Lib.hid (bt D2.out b); clear b)
    | (go_at_call 57; (with_reducible refine (J4.out _).mono ?_); rintro e u4 ⟨rfl, b⟩; have D4 := Lib.hid (bt D3.out b); clear b)
    | (go_at_call 69; (with_reducible refine (J5.out _).mono ?_); rintro e u5 ⟨A5, c5, xs, rfl, hS5, hd5, hl5, hv5, b⟩; have S5 := Lib.hid hS5; have Q5 := Lib.hid hd5; have V5 := Lib.hid hv5; have D5 := Lib.hid (bt D4.out b); clear b hS5 hd5 hv5)
    | (go_at_call 69; (with_reducible refine (J6.out _).mono ?_); rintro e u6 ⟨A6, c6, ys, rfl, hS6, hd6, hl6, hv6, b⟩; have S6 := Lib.hid hS6; have Q6 := Lib.hid hd6; have V6 := Lib.hid hv6; have S7 := Lib.hid (S5.out.below b); have D6 := Lib.hid (bt D5.out b); clear b hS6 hd6 hv6)
    | (go_at_call 68; refine (greater_of _ _ _ _ _ _ _ S7.out S6.out Q5.out Q6.out hl5 hl6 _ _ V5.out V6.out _ HH.out).mono ?_; rintro e u7 ⟨rfl, rfl⟩)
    | (go_at_call 56; (with_reducible refine (J7.out _).mono ?_); rintro e u9 ⟨rfl, b⟩; have D9 := Lib.hid (bt D6.out b); clear b))
  go_ret2
  exact ⟨rfl, D9.out⟩
set_option maxRecDepth 100000 in
set_option maxHeartbeats 3200000 in
theorem rr_0_n_f (s n d fl rs tw up : ByteArray) (V D : Nat) (f h : Int) (w : World)
    (H1 : ∀ W, Calls Tryz.prog 27 #[.string s] W (IntB 0 W))
    (H2 : ∀ W, Calls Tryz.prog 61 #[.string s] W (TwoW n d W))
    (H3 : ∀ W, Calls Tryz.prog 67 #[.string n, .string d] W (TwoB fl rs 0 W))
    (hz : (rs.toList == [48]) = false)
    (H4 : ∀ W, Calls Tryz.prog 57 #[.string ⟨#[50]⟩, .string rs] W (StE tw f W))
    (H5 : ∀ W, Calls Tryz.prog 69 #[.string tw] W (DgV V W))
    (H6 : ∀ W, Calls Tryz.prog 69 #[.string d] W (DgV D W))
    (hh : cmpN V D = h)
    (ht : (tw.toList == []) = false)
    (H7 : ∀ W, Calls Tryz.prog 56 #[.string fl, .string ⟨#[49]⟩] W (StE up 0 W))
    (n0 : 0 < n.size)
    (n1 : ((n[0].toNat : Int) == 45) = true) :
    Calls Tryz.prog 33 #[.string s, .int .u8 0] w (StE up 0 w) := by
  have J1 := Lib.hid H1
  have J2 := Lib.hid H2
  have J3 := Lib.hid H3
  have J4 := Lib.hid H4
  have J5 := Lib.hid H5
  have J6 := Lib.hid H6
  have HH := Lib.hid hh
  have J7 := Lib.hid H7
  clear H1 H2 H3 H4 H5 H6 hh H7
  go_enter Tryz.func33, Tryz.ntmps33
  go_wp2_with (first
    | (go_at_call 27; (with_reducible refine (J1.out _).mono ?_); rintro e u1 ⟨rfl, b⟩; have D1 := Lib.hid b; clear b)
    | (go_at_call 61; (with_reducible refine (J2.out _).mono ?_); rintro e u2 ⟨rfl, b⟩; have D2 := Lib.hid (bt D1.out b); clear b)
    | (go_at_call 67; (with_reducible refine (J3.out _).mono ?_); rintro e u3 ⟨rfl, b⟩; have D3 := Lib.hid (bt D2.out b); clear b)
    | (go_at_call 57; (with_reducible refine (J4.out _).mono ?_); rintro e u4 ⟨rfl, b⟩; have D4 := Lib.hid (bt D3.out b); clear b)
    | (go_at_call 69; (with_reducible refine (J5.out _).mono ?_); rintro e u5 ⟨A5, c5, xs, rfl, hS5, hd5, hl5, hv5, b⟩; have S5 := Lib.hid hS5; have Q5 := Lib.hid hd5; have V5 := Lib.hid hv5; have D5 := Lib.hid (bt D4.out b); clear b hS5 hd5 hv5)
    | (go_at_call 69; (with_reducible refine (J6.out _).mono ?_); rintro e u6 ⟨A6, c6, ys, rfl, hS6, hd6, hl6, hv6, b⟩; have S6 := Lib.hid hS6; have Q6 := Lib.hid hd6; have V6 := Lib.hid hv6; have S7 := Lib.hid (S5.out.below b); have D6 := Lib.hid (bt D5.out b); clear b hS6 hd6 hv6)
    | (go_at_call 68; refine (greater_of _ _ _ _ _ _ _ S7.out S6.out Q5.out Q6.out hl5 hl6 _ _ V5.out V6.out _ HH.out).mono ?_; rintro e u7 ⟨rfl, rfl⟩)
    | (go_at_call 56; (with_reducible refine (J7.out _).mono ?_); rintro e u9 ⟨rfl, b⟩; have D9 := Lib.hid (bt D6.out b); clear b))
  go_ret2
  exact ⟨rfl, D9.out⟩
set_option maxRecDepth 100000 in
set_option maxHeartbeats 3200000 in
theorem rr_0_p_o (s n d fl rs tw : ByteArray) (V D : Nat) (f h : Int) (w : World)
    (H1 : ∀ W, Calls Tryz.prog 27 #[.string s] W (IntB 0 W))
    (H2 : ∀ W, Calls Tryz.prog 61 #[.string s] W (TwoW n d W))
    (H3 : ∀ W, Calls Tryz.prog 67 #[.string n, .string d] W (TwoB fl rs 0 W))
    (hz : (rs.toList == [48]) = false)
    (H4 : ∀ W, Calls Tryz.prog 57 #[.string ⟨#[50]⟩, .string rs] W (StE tw f W))
    (H5 : ∀ W, Calls Tryz.prog 69 #[.string tw] W (DgV V W))
    (H6 : ∀ W, Calls Tryz.prog 69 #[.string d] W (DgV D W))
    (hh : cmpN V D = h)
    (ht : (tw.toList == []) = true)
    (n0 : 0 < n.size)
    (n1 : ((n[0].toNat : Int) == 45) = false) :
    Calls Tryz.prog 33 #[.string s, .int .u8 0] w (StE fl 0 w) := by
  have J1 := Lib.hid H1
  have J2 := Lib.hid H2
  have J3 := Lib.hid H3
  have J4 := Lib.hid H4
  have J5 := Lib.hid H5
  have J6 := Lib.hid H6
  have HH := Lib.hid hh
  clear H1 H2 H3 H4 H5 H6 hh
  go_enter Tryz.func33, Tryz.ntmps33
  go_wp2_with (first
    | (go_at_call 27; (with_reducible refine (J1.out _).mono ?_); rintro e u1 ⟨rfl, b⟩; have D1 := Lib.hid b; clear b)
    | (go_at_call 61; (with_reducible refine (J2.out _).mono ?_); rintro e u2 ⟨rfl, b⟩; have D2 := Lib.hid (bt D1.out b); clear b)
    | (go_at_call 67; (with_reducible refine (J3.out _).mono ?_); rintro e u3 ⟨rfl, b⟩; have D3 := Lib.hid (bt D2.out b); clear b)
    | (go_at_call 57; (with_reducible refine (J4.out _).mono ?_); rintro e u4 ⟨rfl, b⟩; have D4 := Lib.hid (bt D3.out b); clear b)
    | (go_at_call 69; (with_reducible refine (J5.out _).mono ?_); rintro e u5 ⟨A5, c5, xs, rfl, hS5, hd5, hl5, hv5, b⟩; have S5 := Lib.hid hS5; have Q5 := Lib.hid hd5; have V5 := Lib.hid hv5; have D5 := Lib.hid (bt D4.out b); clear b hS5 hd5 hv5)
    | (go_at_call 69; (with_reducible refine (J6.out _).mono ?_); rintro e u6 ⟨A6, c6, ys, rfl, hS6, hd6, hl6, hv6, b⟩; have S6 := Lib.hid hS6; have Q6 := Lib.hid hd6; have V6 := Lib.hid hv6; have S7 := Lib.hid (S5.out.below b); have D6 := Lib.hid (bt D5.out b); clear b hS6 hd6 hv6)
    | (go_at_call 68; refine (greater_of _ _ _ _ _ _ _ S7.out S6.out Q5.out Q6.out hl5 hl6 _ _ V5.out V6.out _ HH.out).mono ?_; rintro e u7 ⟨rfl, rfl⟩))
  go_ret2
  exact ⟨rfl, D6.out⟩
set_option maxRecDepth 100000 in
set_option maxHeartbeats 3200000 in
theorem rr_0_p_f (s n d fl rs tw : ByteArray) (V D : Nat) (f h : Int) (w : World)
    (H1 : ∀ W, Calls Tryz.prog 27 #[.string s] W (IntB 0 W))
    (H2 : ∀ W, Calls Tryz.prog 61 #[.string s] W (TwoW n d W))
    (H3 : ∀ W, Calls Tryz.prog 67 #[.string n, .string d] W (TwoB fl rs 0 W))
    (hz : (rs.toList == [48]) = false)
    (H4 : ∀ W, Calls Tryz.prog 57 #[.string ⟨#[50]⟩, .string rs] W (StE tw f W))
    (H5 : ∀ W, Calls Tryz.prog 69 #[.string tw] W (DgV V W))
    (H6 : ∀ W, Calls Tryz.prog 69 #[.string d] W (DgV D W))
    (hh : cmpN V D = h)
    (ht : (tw.toList == []) = false)
    (n0 : 0 < n.size)
    (n1 : ((n[0].toNat : Int) == 45) = false) :
    Calls Tryz.prog 33 #[.string s, .int .u8 0] w (StE fl 0 w) := by
  have J1 := Lib.hid H1
  have J2 := Lib.hid H2
  have J3 := Lib.hid H3
  have J4 := Lib.hid H4
  have J5 := Lib.hid H5
  have J6 := Lib.hid H6
  have HH := Lib.hid hh
  clear H1 H2 H3 H4 H5 H6 hh
  go_enter Tryz.func33, Tryz.ntmps33
  go_wp2_with (first
    | (go_at_call 27; (with_reducible refine (J1.out _).mono ?_); rintro e u1 ⟨rfl, b⟩; have D1 := Lib.hid b; clear b)
    | (go_at_call 61; (with_reducible refine (J2.out _).mono ?_); rintro e u2 ⟨rfl, b⟩; have D2 := Lib.hid (bt D1.out b); clear b)
    | (go_at_call 67; (with_reducible refine (J3.out _).mono ?_); rintro e u3 ⟨rfl, b⟩; have D3 := Lib.hid (bt D2.out b); clear b)
    | (go_at_call 57; (with_reducible refine (J4.out _).mono ?_); rintro e u4 ⟨rfl, b⟩; have D4 := Lib.hid (bt D3.out b); clear b)
    | (go_at_call 69; (with_reducible refine (J5.out _).mono ?_); rintro e u5 ⟨A5, c5, xs, rfl, hS5, hd5, hl5, hv5, b⟩; have S5 := Lib.hid hS5; have Q5 := Lib.hid hd5; have V5 := Lib.hid hv5; have D5 := Lib.hid (bt D4.out b); clear b hS5 hd5 hv5)
    | (go_at_call 69; (with_reducible refine (J6.out _).mono ?_); rintro e u6 ⟨A6, c6, ys, rfl, hS6, hd6, hl6, hv6, b⟩; have S6 := Lib.hid hS6; have Q6 := Lib.hid hd6; have V6 := Lib.hid hv6; have S7 := Lib.hid (S5.out.below b); have D6 := Lib.hid (bt D5.out b); clear b hS6 hd6 hv6)
    | (go_at_call 68; refine (greater_of _ _ _ _ _ _ _ S7.out S6.out Q5.out Q6.out hl5 hl6 _ _ V5.out V6.out _ HH.out).mono ?_; rintro e u7 ⟨rfl, rfl⟩))
  go_ret2
  exact ⟨rfl, D6.out⟩
set_option maxRecDepth 100000 in
set_option maxHeartbeats 3200000 in
theorem rr_1_n_o (s n d fl rs tw : ByteArray) (V D : Nat) (f h : Int) (w : World)
    (H1 : ∀ W, Calls Tryz.prog 27 #[.string s] W (IntB 0 W))
    (H2 : ∀ W, Calls Tryz.prog 61 #[.string s] W (TwoW n d W))
    (H3 : ∀ W, Calls Tryz.prog 67 #[.string n, .string d] W (TwoB fl rs 0 W))
    (hz : (rs.toList == [48]) = false)
    (H4 : ∀ W, Calls Tryz.prog 57 #[.string ⟨#[50]⟩, .string rs] W (StE tw f W))
    (H5 : ∀ W, Calls Tryz.prog 69 #[.string tw] W (DgV V W))
    (H6 : ∀ W, Calls Tryz.prog 69 #[.string d] W (DgV D W))
    (hh : cmpN V D = h)
    (ht : (tw.toList == []) = true)
    (n0 : 0 < n.size)
    (n2 : ((n[0].toNat : Int) != 45) = false) :
    Calls Tryz.prog 33 #[.string s, .int .u8 1] w (StE fl 0 w) := by
  have J1 := Lib.hid H1
  have J2 := Lib.hid H2
  have J3 := Lib.hid H3
  have J4 := Lib.hid H4
  have J5 := Lib.hid H5
  have J6 := Lib.hid H6
  have HH := Lib.hid hh
  clear H1 H2 H3 H4 H5 H6 hh
  go_enter Tryz.func33, Tryz.ntmps33
  go_wp2_with (first
    | (go_at_call 27; (with_reducible refine (J1.out _).mono ?_); rintro e u1 ⟨rfl, b⟩; have D1 := Lib.hid b; clear b)
    | (go_at_call 61; (with_reducible refine (J2.out _).mono ?_); rintro e u2 ⟨rfl, b⟩; have D2 := Lib.hid (bt D1.out b); clear b)
    | (go_at_call 67; (with_reducible refine (J3.out _).mono ?_); rintro e u3 ⟨rfl, b⟩; have D3 := Lib.hid (bt D2.out b); clear b)
    | (go_at_call 57; (with_reducible refine (J4.out _).mono ?_); rintro e u4 ⟨rfl, b⟩; have D4 := Lib.hid (bt D3.out b); clear b)
    | (go_at_call 69; (with_reducible refine (J5.out _).mono ?_); rintro e u5 ⟨A5, c5, xs, rfl, hS5, hd5, hl5, hv5, b⟩; have S5 := Lib.hid hS5; have Q5 := Lib.hid hd5; have V5 := Lib.hid hv5; have D5 := Lib.hid (bt D4.out b); clear b hS5 hd5 hv5)
    | (go_at_call 69; (with_reducible refine (J6.out _).mono ?_); rintro e u6 ⟨A6, c6, ys, rfl, hS6, hd6, hl6, hv6, b⟩; have S6 := Lib.hid hS6; have Q6 := Lib.hid hd6; have V6 := Lib.hid hv6; have S7 := Lib.hid (S5.out.below b); have D6 := Lib.hid (bt D5.out b); clear b hS6 hd6 hv6)
    | (go_at_call 68; refine (greater_of _ _ _ _ _ _ _ S7.out S6.out Q5.out Q6.out hl5 hl6 _ _ V5.out V6.out _ HH.out).mono ?_; rintro e u7 ⟨rfl, rfl⟩))
  go_ret2
  exact ⟨rfl, D6.out⟩
set_option maxRecDepth 100000 in
set_option maxHeartbeats 3200000 in
theorem rr_1_n_f (s n d fl rs tw : ByteArray) (V D : Nat) (f h : Int) (w : World)
    (H1 : ∀ W, Calls Tryz.prog 27 #[.string s] W (IntB 0 W))
    (H2 : ∀ W, Calls Tryz.prog 61 #[.string s] W (TwoW n d W))
    (H3 : ∀ W, Calls Tryz.prog 67 #[.string n, .string d] W (TwoB fl rs 0 W))
    (hz : (rs.toList == [48]) = false)
    (H4 : ∀ W, Calls Tryz.prog 57 #[.string ⟨#[50]⟩, .string rs] W (StE tw f W))
    (H5 : ∀ W, Calls Tryz.prog 69 #[.string tw] W (DgV V W))
    (H6 : ∀ W, Calls Tryz.prog 69 #[.string d] W (DgV D W))
    (hh : cmpN V D = h)
    (ht : (tw.toList == []) = false)
    (n0 : 0 < n.size)
    (n2 : ((n[0].toNat : Int) != 45) = false) :
    Calls Tryz.prog 33 #[.string s, .int .u8 1] w (StE fl 0 w) := by
  have J1 := Lib.hid H1
  have J2 := Lib.hid H2
  have J3 := Lib.hid H3
  have J4 := Lib.hid H4
  have J5 := Lib.hid H5
  have J6 := Lib.hid H6
  have HH := Lib.hid hh
  clear H1 H2 H3 H4 H5 H6 hh
  go_enter Tryz.func33, Tryz.ntmps33
  go_wp2_with (first
    | (go_at_call 27; (with_reducible refine (J1.out _).mono ?_); rintro e u1 ⟨rfl, b⟩; have D1 := Lib.hid b; clear b)
    | (go_at_call 61; (with_reducible refine (J2.out _).mono ?_); rintro e u2 ⟨rfl, b⟩; have D2 := Lib.hid (bt D1.out b); clear b)
    | (go_at_call 67; (with_reducible refine (J3.out _).mono ?_); rintro e u3 ⟨rfl, b⟩; have D3 := Lib.hid (bt D2.out b); clear b)
    | (go_at_call 57; (with_reducible refine (J4.out _).mono ?_); rintro e u4 ⟨rfl, b⟩; have D4 := Lib.hid (bt D3.out b); clear b)
    | (go_at_call 69; (with_reducible refine (J5.out _).mono ?_); rintro e u5 ⟨A5, c5, xs, rfl, hS5, hd5, hl5, hv5, b⟩; have S5 := Lib.hid hS5; have Q5 := Lib.hid hd5; have V5 := Lib.hid hv5; have D5 := Lib.hid (bt D4.out b); clear b hS5 hd5 hv5)
    | (go_at_call 69; (with_reducible refine (J6.out _).mono ?_); rintro e u6 ⟨A6, c6, ys, rfl, hS6, hd6, hl6, hv6, b⟩; have S6 := Lib.hid hS6; have Q6 := Lib.hid hd6; have V6 := Lib.hid hv6; have S7 := Lib.hid (S5.out.below b); have D6 := Lib.hid (bt D5.out b); clear b hS6 hd6 hv6)
    | (go_at_call 68; refine (greater_of _ _ _ _ _ _ _ S7.out S6.out Q5.out Q6.out hl5 hl6 _ _ V5.out V6.out _ HH.out).mono ?_; rintro e u7 ⟨rfl, rfl⟩))
  go_ret2
  exact ⟨rfl, D6.out⟩
set_option maxRecDepth 100000 in
set_option maxHeartbeats 3200000 in
theorem rr_1_p_o (s n d fl rs tw up : ByteArray) (V D : Nat) (f h : Int) (w : World)
    (H1 : ∀ W, Calls Tryz.prog 27 #[.string s] W (IntB 0 W))
    (H2 : ∀ W, Calls Tryz.prog 61 #[.string s] W (TwoW n d W))
    (H3 : ∀ W, Calls Tryz.prog 67 #[.string n, .string d] W (TwoB fl rs 0 W))
    (hz : (rs.toList == [48]) = false)
    (H4 : ∀ W, Calls Tryz.prog 57 #[.string ⟨#[50]⟩, .string rs] W (StE tw f W))
    (H5 : ∀ W, Calls Tryz.prog 69 #[.string tw] W (DgV V W))
    (H6 : ∀ W, Calls Tryz.prog 69 #[.string d] W (DgV D W))
    (hh : cmpN V D = h)
    (ht : (tw.toList == []) = true)
    (H7 : ∀ W, Calls Tryz.prog 56 #[.string fl, .string ⟨#[49]⟩] W (StE up 0 W))
    (n0 : 0 < n.size)
    (n2 : ((n[0].toNat : Int) != 45) = true) :
    Calls Tryz.prog 33 #[.string s, .int .u8 1] w (StE up 0 w) := by
  have J1 := Lib.hid H1
  have J2 := Lib.hid H2
  have J3 := Lib.hid H3
  have J4 := Lib.hid H4
  have J5 := Lib.hid H5
  have J6 := Lib.hid H6
  have HH := Lib.hid hh
  have J7 := Lib.hid H7
  clear H1 H2 H3 H4 H5 H6 hh H7
  go_enter Tryz.func33, Tryz.ntmps33
  go_wp2_with (first
    | (go_at_call 27; (with_reducible refine (J1.out _).mono ?_); rintro e u1 ⟨rfl, b⟩; have D1 := Lib.hid b; clear b)
    | (go_at_call 61; (with_reducible refine (J2.out _).mono ?_); rintro e u2 ⟨rfl, b⟩; have D2 := Lib.hid (bt D1.out b); clear b)
    | (go_at_call 67; (with_reducible refine (J3.out _).mono ?_); rintro e u3 ⟨rfl, b⟩; have D3 := Lib.hid (bt D2.out b); clear b)
    | (go_at_call 57; (with_reducible refine (J4.out _).mono ?_); rintro e u4 ⟨rfl, b⟩; have D4 := Lib.hid (bt D3.out b); clear b)
    | (go_at_call 69; (with_reducible refine (J5.out _).mono ?_); rintro e u5 ⟨A5, c5, xs, rfl, hS5, hd5, hl5, hv5, b⟩; have S5 := Lib.hid hS5; have Q5 := Lib.hid hd5; have V5 := Lib.hid hv5; have D5 := Lib.hid (bt D4.out b); clear b hS5 hd5 hv5)
    | (go_at_call 69; (with_reducible refine (J6.out _).mono ?_); rintro e u6 ⟨A6, c6, ys, rfl, hS6, hd6, hl6, hv6, b⟩; have S6 := Lib.hid hS6; have Q6 := Lib.hid hd6; have V6 := Lib.hid hv6; have S7 := Lib.hid (S5.out.below b); have D6 := Lib.hid (bt D5.out b); clear b hS6 hd6 hv6)
    | (go_at_call 68; refine (greater_of _ _ _ _ _ _ _ S7.out S6.out Q5.out Q6.out hl5 hl6 _ _ V5.out V6.out _ HH.out).mono ?_; rintro e u7 ⟨rfl, rfl⟩)
    | (go_at_call 56; (with_reducible refine (J7.out _).mono ?_); rintro e u9 ⟨rfl, b⟩; have D9 := Lib.hid (bt D6.out b); clear b))
  go_ret2
  exact ⟨rfl, D9.out⟩
set_option maxRecDepth 100000 in
set_option maxHeartbeats 3200000 in
theorem rr_1_p_f (s n d fl rs tw up : ByteArray) (V D : Nat) (f h : Int) (w : World)
    (H1 : ∀ W, Calls Tryz.prog 27 #[.string s] W (IntB 0 W))
    (H2 : ∀ W, Calls Tryz.prog 61 #[.string s] W (TwoW n d W))
    (H3 : ∀ W, Calls Tryz.prog 67 #[.string n, .string d] W (TwoB fl rs 0 W))
    (hz : (rs.toList == [48]) = false)
    (H4 : ∀ W, Calls Tryz.prog 57 #[.string ⟨#[50]⟩, .string rs] W (StE tw f W))
    (H5 : ∀ W, Calls Tryz.prog 69 #[.string tw] W (DgV V W))
    (H6 : ∀ W, Calls Tryz.prog 69 #[.string d] W (DgV D W))
    (hh : cmpN V D = h)
    (ht : (tw.toList == []) = false)
    (H7 : ∀ W, Calls Tryz.prog 56 #[.string fl, .string ⟨#[49]⟩] W (StE up 0 W))
    (n0 : 0 < n.size)
    (n2 : ((n[0].toNat : Int) != 45) = true) :
    Calls Tryz.prog 33 #[.string s, .int .u8 1] w (StE up 0 w) := by
  have J1 := Lib.hid H1
  have J2 := Lib.hid H2
  have J3 := Lib.hid H3
  have J4 := Lib.hid H4
  have J5 := Lib.hid H5
  have J6 := Lib.hid H6
  have HH := Lib.hid hh
  have J7 := Lib.hid H7
  clear H1 H2 H3 H4 H5 H6 hh H7
  go_enter Tryz.func33, Tryz.ntmps33
  go_wp2_with (first
    | (go_at_call 27; (with_reducible refine (J1.out _).mono ?_); rintro e u1 ⟨rfl, b⟩; have D1 := Lib.hid b; clear b)
    | (go_at_call 61; (with_reducible refine (J2.out _).mono ?_); rintro e u2 ⟨rfl, b⟩; have D2 := Lib.hid (bt D1.out b); clear b)
    | (go_at_call 67; (with_reducible refine (J3.out _).mono ?_); rintro e u3 ⟨rfl, b⟩; have D3 := Lib.hid (bt D2.out b); clear b)
    | (go_at_call 57; (with_reducible refine (J4.out _).mono ?_); rintro e u4 ⟨rfl, b⟩; have D4 := Lib.hid (bt D3.out b); clear b)
    | (go_at_call 69; (with_reducible refine (J5.out _).mono ?_); rintro e u5 ⟨A5, c5, xs, rfl, hS5, hd5, hl5, hv5, b⟩; have S5 := Lib.hid hS5; have Q5 := Lib.hid hd5; have V5 := Lib.hid hv5; have D5 := Lib.hid (bt D4.out b); clear b hS5 hd5 hv5)
    | (go_at_call 69; (with_reducible refine (J6.out _).mono ?_); rintro e u6 ⟨A6, c6, ys, rfl, hS6, hd6, hl6, hv6, b⟩; have S6 := Lib.hid hS6; have Q6 := Lib.hid hd6; have V6 := Lib.hid hv6; have S7 := Lib.hid (S5.out.below b); have D6 := Lib.hid (bt D5.out b); clear b hS6 hd6 hv6)
    | (go_at_call 68; refine (greater_of _ _ _ _ _ _ _ S7.out S6.out Q5.out Q6.out hl5 hl6 _ _ V5.out V6.out _ HH.out).mono ?_; rintro e u7 ⟨rfl, rfl⟩)
    | (go_at_call 56; (with_reducible refine (J7.out _).mono ?_); rintro e u9 ⟨rfl, b⟩; have D9 := Lib.hid (bt D6.out b); clear b))
  go_ret2
  exact ⟨rfl, D9.out⟩
set_option maxRecDepth 100000 in
set_option maxHeartbeats 3200000 in
theorem rr_2_o (s n d fl rs tw up : ByteArray) (V D : Nat) (f h : Int) (w : World)
    (H1 : ∀ W, Calls Tryz.prog 27 #[.string s] W (IntB 0 W))
    (H2 : ∀ W, Calls Tryz.prog 61 #[.string s] W (TwoW n d W))
    (H3 : ∀ W, Calls Tryz.prog 67 #[.string n, .string d] W (TwoB fl rs 0 W))
    (hz : (rs.toList == [48]) = false)
    (H4 : ∀ W, Calls Tryz.prog 57 #[.string ⟨#[50]⟩, .string rs] W (StE tw f W))
    (H5 : ∀ W, Calls Tryz.prog 69 #[.string tw] W (DgV V W))
    (H6 : ∀ W, Calls Tryz.prog 69 #[.string d] W (DgV D W))
    (hh : cmpN V D = h)
    (ht : (tw.toList == []) = true)
    (H7 : ∀ W, Calls Tryz.prog 56 #[.string fl, .string ⟨#[49]⟩] W (StE up 0 W)) :
    Calls Tryz.prog 33 #[.string s, .int .u8 2] w (StE up 0 w) := by
  have J1 := Lib.hid H1
  have J2 := Lib.hid H2
  have J3 := Lib.hid H3
  have J4 := Lib.hid H4
  have J5 := Lib.hid H5
  have J6 := Lib.hid H6
  have HH := Lib.hid hh
  have J7 := Lib.hid H7
  clear H1 H2 H3 H4 H5 H6 hh H7
  go_enter Tryz.func33, Tryz.ntmps33
  go_wp2_with (first
    | (go_at_call 27; (with_reducible refine (J1.out _).mono ?_); rintro e u1 ⟨rfl, b⟩; have D1 := Lib.hid b; clear b)
    | (go_at_call 61; (with_reducible refine (J2.out _).mono ?_); rintro e u2 ⟨rfl, b⟩; have D2 := Lib.hid (bt D1.out b); clear b)
    | (go_at_call 67; (with_reducible refine (J3.out _).mono ?_); rintro e u3 ⟨rfl, b⟩; have D3 := Lib.hid (bt D2.out b); clear b)
    | (go_at_call 57; (with_reducible refine (J4.out _).mono ?_); rintro e u4 ⟨rfl, b⟩; have D4 := Lib.hid (bt D3.out b); clear b)
    | (go_at_call 69; (with_reducible refine (J5.out _).mono ?_); rintro e u5 ⟨A5, c5, xs, rfl, hS5, hd5, hl5, hv5, b⟩; have S5 := Lib.hid hS5; have Q5 := Lib.hid hd5; have V5 := Lib.hid hv5; have D5 := Lib.hid (bt D4.out b); clear b hS5 hd5 hv5)
    | (go_at_call 69; (with_reducible refine (J6.out _).mono ?_); rintro e u6 ⟨A6, c6, ys, rfl, hS6, hd6, hl6, hv6, b⟩; have S6 := Lib.hid hS6; have Q6 := Lib.hid hd6; have V6 := Lib.hid hv6; have S7 := Lib.hid (S5.out.below b); have D6 := Lib.hid (bt D5.out b); clear b hS6 hd6 hv6)
    | (go_at_call 68; refine (greater_of _ _ _ _ _ _ _ S7.out S6.out Q5.out Q6.out hl5 hl6 _ _ V5.out V6.out _ HH.out).mono ?_; rintro e u7 ⟨rfl, rfl⟩)
    | (go_at_call 56; (with_reducible refine (J7.out _).mono ?_); rintro e u9 ⟨rfl, b⟩; have D9 := Lib.hid (bt D6.out b); clear b))
  go_ret2
  exact ⟨rfl, D9.out⟩
set_option maxRecDepth 100000 in
set_option maxHeartbeats 3200000 in
theorem rr_2_m (s n d fl rs tw : ByteArray) (V D : Nat) (f : Int) (w : World)
    (H1 : ∀ W, Calls Tryz.prog 27 #[.string s] W (IntB 0 W))
    (H2 : ∀ W, Calls Tryz.prog 61 #[.string s] W (TwoW n d W))
    (H3 : ∀ W, Calls Tryz.prog 67 #[.string n, .string d] W (TwoB fl rs 0 W))
    (hz : (rs.toList == [48]) = false)
    (H4 : ∀ W, Calls Tryz.prog 57 #[.string ⟨#[50]⟩, .string rs] W (StE tw f W))
    (H5 : ∀ W, Calls Tryz.prog 69 #[.string tw] W (DgV V W))
    (H6 : ∀ W, Calls Tryz.prog 69 #[.string d] W (DgV D W))
    (hh : cmpN V D = -1)
    (ht : (tw.toList == []) = false) :
    Calls Tryz.prog 33 #[.string s, .int .u8 2] w (StE fl 0 w) := by
  have J1 := Lib.hid H1
  have J2 := Lib.hid H2
  have J3 := Lib.hid H3
  have J4 := Lib.hid H4
  have J5 := Lib.hid H5
  have J6 := Lib.hid H6
  have HH := Lib.hid hh
  clear H1 H2 H3 H4 H5 H6 hh
  go_enter Tryz.func33, Tryz.ntmps33
  go_wp2_with (first
    | (go_at_call 27; (with_reducible refine (J1.out _).mono ?_); rintro e u1 ⟨rfl, b⟩; have D1 := Lib.hid b; clear b)
    | (go_at_call 61; (with_reducible refine (J2.out _).mono ?_); rintro e u2 ⟨rfl, b⟩; have D2 := Lib.hid (bt D1.out b); clear b)
    | (go_at_call 67; (with_reducible refine (J3.out _).mono ?_); rintro e u3 ⟨rfl, b⟩; have D3 := Lib.hid (bt D2.out b); clear b)
    | (go_at_call 57; (with_reducible refine (J4.out _).mono ?_); rintro e u4 ⟨rfl, b⟩; have D4 := Lib.hid (bt D3.out b); clear b)
    | (go_at_call 69; (with_reducible refine (J5.out _).mono ?_); rintro e u5 ⟨A5, c5, xs, rfl, hS5, hd5, hl5, hv5, b⟩; have S5 := Lib.hid hS5; have Q5 := Lib.hid hd5; have V5 := Lib.hid hv5; have D5 := Lib.hid (bt D4.out b); clear b hS5 hd5 hv5)
    | (go_at_call 69; (with_reducible refine (J6.out _).mono ?_); rintro e u6 ⟨A6, c6, ys, rfl, hS6, hd6, hl6, hv6, b⟩; have S6 := Lib.hid hS6; have Q6 := Lib.hid hd6; have V6 := Lib.hid hv6; have S7 := Lib.hid (S5.out.below b); have D6 := Lib.hid (bt D5.out b); clear b hS6 hd6 hv6)
    | (go_at_call 68; refine (greater_of _ _ _ _ _ _ _ S7.out S6.out Q5.out Q6.out hl5 hl6 _ _ V5.out V6.out _ HH.out).mono ?_; rintro e u7 ⟨rfl, rfl⟩))
  go_ret2
  exact ⟨rfl, D6.out⟩
set_option maxRecDepth 100000 in
set_option maxHeartbeats 3200000 in
theorem rr_2_u (s n d fl rs tw up : ByteArray) (V D : Nat) (f : Int) (w : World)
    (H1 : ∀ W, Calls Tryz.prog 27 #[.string s] W (IntB 0 W))
    (H2 : ∀ W, Calls Tryz.prog 61 #[.string s] W (TwoW n d W))
    (H3 : ∀ W, Calls Tryz.prog 67 #[.string n, .string d] W (TwoB fl rs 0 W))
    (hz : (rs.toList == [48]) = false)
    (H4 : ∀ W, Calls Tryz.prog 57 #[.string ⟨#[50]⟩, .string rs] W (StE tw f W))
    (H5 : ∀ W, Calls Tryz.prog 69 #[.string tw] W (DgV V W))
    (H6 : ∀ W, Calls Tryz.prog 69 #[.string d] W (DgV D W))
    (hh : cmpN V D = 1)
    (ht : (tw.toList == []) = false)
    (H7 : ∀ W, Calls Tryz.prog 56 #[.string fl, .string ⟨#[49]⟩] W (StE up 0 W)) :
    Calls Tryz.prog 33 #[.string s, .int .u8 2] w (StE up 0 w) := by
  have J1 := Lib.hid H1
  have J2 := Lib.hid H2
  have J3 := Lib.hid H3
  have J4 := Lib.hid H4
  have J5 := Lib.hid H5
  have J6 := Lib.hid H6
  have HH := Lib.hid hh
  have J7 := Lib.hid H7
  clear H1 H2 H3 H4 H5 H6 hh H7
  go_enter Tryz.func33, Tryz.ntmps33
  go_wp2_with (first
    | (go_at_call 27; (with_reducible refine (J1.out _).mono ?_); rintro e u1 ⟨rfl, b⟩; have D1 := Lib.hid b; clear b)
    | (go_at_call 61; (with_reducible refine (J2.out _).mono ?_); rintro e u2 ⟨rfl, b⟩; have D2 := Lib.hid (bt D1.out b); clear b)
    | (go_at_call 67; (with_reducible refine (J3.out _).mono ?_); rintro e u3 ⟨rfl, b⟩; have D3 := Lib.hid (bt D2.out b); clear b)
    | (go_at_call 57; (with_reducible refine (J4.out _).mono ?_); rintro e u4 ⟨rfl, b⟩; have D4 := Lib.hid (bt D3.out b); clear b)
    | (go_at_call 69; (with_reducible refine (J5.out _).mono ?_); rintro e u5 ⟨A5, c5, xs, rfl, hS5, hd5, hl5, hv5, b⟩; have S5 := Lib.hid hS5; have Q5 := Lib.hid hd5; have V5 := Lib.hid hv5; have D5 := Lib.hid (bt D4.out b); clear b hS5 hd5 hv5)
    | (go_at_call 69; (with_reducible refine (J6.out _).mono ?_); rintro e u6 ⟨A6, c6, ys, rfl, hS6, hd6, hl6, hv6, b⟩; have S6 := Lib.hid hS6; have Q6 := Lib.hid hd6; have V6 := Lib.hid hv6; have S7 := Lib.hid (S5.out.below b); have D6 := Lib.hid (bt D5.out b); clear b hS6 hd6 hv6)
    | (go_at_call 68; refine (greater_of _ _ _ _ _ _ _ S7.out S6.out Q5.out Q6.out hl5 hl6 _ _ V5.out V6.out _ HH.out).mono ?_; rintro e u7 ⟨rfl, rfl⟩)
    | (go_at_call 56; (with_reducible refine (J7.out _).mono ?_); rintro e u9 ⟨rfl, b⟩; have D9 := Lib.hid (bt D6.out b); clear b))
  go_ret2
  exact ⟨rfl, D9.out⟩
set_option maxRecDepth 100000 in
set_option maxHeartbeats 3200000 in
theorem rr_2_n (s n d fl rs tw : ByteArray) (V D : Nat) (f : Int) (w : World)
    (H1 : ∀ W, Calls Tryz.prog 27 #[.string s] W (IntB 0 W))
    (H2 : ∀ W, Calls Tryz.prog 61 #[.string s] W (TwoW n d W))
    (H3 : ∀ W, Calls Tryz.prog 67 #[.string n, .string d] W (TwoB fl rs 0 W))
    (hz : (rs.toList == [48]) = false)
    (H4 : ∀ W, Calls Tryz.prog 57 #[.string ⟨#[50]⟩, .string rs] W (StE tw f W))
    (H5 : ∀ W, Calls Tryz.prog 69 #[.string tw] W (DgV V W))
    (H6 : ∀ W, Calls Tryz.prog 69 #[.string d] W (DgV D W))
    (hh : cmpN V D = 0)
    (ht : (tw.toList == []) = false)
    (n0 : 0 < n.size)
    (n2 : ((n[0].toNat : Int) != 45) = false) :
    Calls Tryz.prog 33 #[.string s, .int .u8 2] w (StE fl 0 w) := by
  have J1 := Lib.hid H1
  have J2 := Lib.hid H2
  have J3 := Lib.hid H3
  have J4 := Lib.hid H4
  have J5 := Lib.hid H5
  have J6 := Lib.hid H6
  have HH := Lib.hid hh
  clear H1 H2 H3 H4 H5 H6 hh
  go_enter Tryz.func33, Tryz.ntmps33
  go_wp2_with (first
    | (go_at_call 27; (with_reducible refine (J1.out _).mono ?_); rintro e u1 ⟨rfl, b⟩; have D1 := Lib.hid b; clear b)
    | (go_at_call 61; (with_reducible refine (J2.out _).mono ?_); rintro e u2 ⟨rfl, b⟩; have D2 := Lib.hid (bt D1.out b); clear b)
    | (go_at_call 67; (with_reducible refine (J3.out _).mono ?_); rintro e u3 ⟨rfl, b⟩; have D3 := Lib.hid (bt D2.out b); clear b)
    | (go_at_call 57; (with_reducible refine (J4.out _).mono ?_); rintro e u4 ⟨rfl, b⟩; have D4 := Lib.hid (bt D3.out b); clear b)
    | (go_at_call 69; (with_reducible refine (J5.out _).mono ?_); rintro e u5 ⟨A5, c5, xs, rfl, hS5, hd5, hl5, hv5, b⟩; have S5 := Lib.hid hS5; have Q5 := Lib.hid hd5; have V5 := Lib.hid hv5; have D5 := Lib.hid (bt D4.out b); clear b hS5 hd5 hv5)
    | (go_at_call 69; (with_reducible refine (J6.out _).mono ?_); rintro e u6 ⟨A6, c6, ys, rfl, hS6, hd6, hl6, hv6, b⟩; have S6 := Lib.hid hS6; have Q6 := Lib.hid hd6; have V6 := Lib.hid hv6; have S7 := Lib.hid (S5.out.below b); have D6 := Lib.hid (bt D5.out b); clear b hS6 hd6 hv6)
    | (go_at_call 68; refine (greater_of _ _ _ _ _ _ _ S7.out S6.out Q5.out Q6.out hl5 hl6 _ _ V5.out V6.out _ HH.out).mono ?_; rintro e u7 ⟨rfl, rfl⟩))
  go_ret2
  exact ⟨rfl, D6.out⟩
set_option maxRecDepth 100000 in
set_option maxHeartbeats 3200000 in
theorem rr_2_p (s n d fl rs tw up : ByteArray) (V D : Nat) (f : Int) (w : World)
    (H1 : ∀ W, Calls Tryz.prog 27 #[.string s] W (IntB 0 W))
    (H2 : ∀ W, Calls Tryz.prog 61 #[.string s] W (TwoW n d W))
    (H3 : ∀ W, Calls Tryz.prog 67 #[.string n, .string d] W (TwoB fl rs 0 W))
    (hz : (rs.toList == [48]) = false)
    (H4 : ∀ W, Calls Tryz.prog 57 #[.string ⟨#[50]⟩, .string rs] W (StE tw f W))
    (H5 : ∀ W, Calls Tryz.prog 69 #[.string tw] W (DgV V W))
    (H6 : ∀ W, Calls Tryz.prog 69 #[.string d] W (DgV D W))
    (hh : cmpN V D = 0)
    (ht : (tw.toList == []) = false)
    (H7 : ∀ W, Calls Tryz.prog 56 #[.string fl, .string ⟨#[49]⟩] W (StE up 0 W))
    (n0 : 0 < n.size)
    (n2 : ((n[0].toNat : Int) != 45) = true) :
    Calls Tryz.prog 33 #[.string s, .int .u8 2] w (StE up 0 w) := by
  have J1 := Lib.hid H1
  have J2 := Lib.hid H2
  have J3 := Lib.hid H3
  have J4 := Lib.hid H4
  have J5 := Lib.hid H5
  have J6 := Lib.hid H6
  have HH := Lib.hid hh
  have J7 := Lib.hid H7
  clear H1 H2 H3 H4 H5 H6 hh H7
  go_enter Tryz.func33, Tryz.ntmps33
  go_wp2_with (first
    | (go_at_call 27; (with_reducible refine (J1.out _).mono ?_); rintro e u1 ⟨rfl, b⟩; have D1 := Lib.hid b; clear b)
    | (go_at_call 61; (with_reducible refine (J2.out _).mono ?_); rintro e u2 ⟨rfl, b⟩; have D2 := Lib.hid (bt D1.out b); clear b)
    | (go_at_call 67; (with_reducible refine (J3.out _).mono ?_); rintro e u3 ⟨rfl, b⟩; have D3 := Lib.hid (bt D2.out b); clear b)
    | (go_at_call 57; (with_reducible refine (J4.out _).mono ?_); rintro e u4 ⟨rfl, b⟩; have D4 := Lib.hid (bt D3.out b); clear b)
    | (go_at_call 69; (with_reducible refine (J5.out _).mono ?_); rintro e u5 ⟨A5, c5, xs, rfl, hS5, hd5, hl5, hv5, b⟩; have S5 := Lib.hid hS5; have Q5 := Lib.hid hd5; have V5 := Lib.hid hv5; have D5 := Lib.hid (bt D4.out b); clear b hS5 hd5 hv5)
    | (go_at_call 69; (with_reducible refine (J6.out _).mono ?_); rintro e u6 ⟨A6, c6, ys, rfl, hS6, hd6, hl6, hv6, b⟩; have S6 := Lib.hid hS6; have Q6 := Lib.hid hd6; have V6 := Lib.hid hv6; have S7 := Lib.hid (S5.out.below b); have D6 := Lib.hid (bt D5.out b); clear b hS6 hd6 hv6)
    | (go_at_call 68; refine (greater_of _ _ _ _ _ _ _ S7.out S6.out Q5.out Q6.out hl5 hl6 _ _ V5.out V6.out _ HH.out).mono ?_; rintro e u7 ⟨rfl, rfl⟩)
    | (go_at_call 56; (with_reducible refine (J7.out _).mono ?_); rintro e u9 ⟨rfl, b⟩; have D9 := Lib.hid (bt D6.out b); clear b))
  go_ret2
  exact ⟨rfl, D9.out⟩
set_option maxRecDepth 100000 in
set_option maxHeartbeats 3200000 in
theorem rr_3_o (s n d fl rs tw up : ByteArray) (V D : Nat) (f h : Int) (w : World)
    (H1 : ∀ W, Calls Tryz.prog 27 #[.string s] W (IntB 0 W))
    (H2 : ∀ W, Calls Tryz.prog 61 #[.string s] W (TwoW n d W))
    (H3 : ∀ W, Calls Tryz.prog 67 #[.string n, .string d] W (TwoB fl rs 0 W))
    (hz : (rs.toList == [48]) = false)
    (H4 : ∀ W, Calls Tryz.prog 57 #[.string ⟨#[50]⟩, .string rs] W (StE tw f W))
    (H5 : ∀ W, Calls Tryz.prog 69 #[.string tw] W (DgV V W))
    (H6 : ∀ W, Calls Tryz.prog 69 #[.string d] W (DgV D W))
    (hh : cmpN V D = h)
    (ht : (tw.toList == []) = true)
    (H7 : ∀ W, Calls Tryz.prog 56 #[.string fl, .string ⟨#[49]⟩] W (StE up 0 W)) :
    Calls Tryz.prog 33 #[.string s, .int .u8 3] w (StE up 0 w) := by
  have J1 := Lib.hid H1
  have J2 := Lib.hid H2
  have J3 := Lib.hid H3
  have J4 := Lib.hid H4
  have J5 := Lib.hid H5
  have J6 := Lib.hid H6
  have HH := Lib.hid hh
  have J7 := Lib.hid H7
  clear H1 H2 H3 H4 H5 H6 hh H7
  go_enter Tryz.func33, Tryz.ntmps33
  go_wp2_with (first
    | (go_at_call 27; (with_reducible refine (J1.out _).mono ?_); rintro e u1 ⟨rfl, b⟩; have D1 := Lib.hid b; clear b)
    | (go_at_call 61; (with_reducible refine (J2.out _).mono ?_); rintro e u2 ⟨rfl, b⟩; have D2 := Lib.hid (bt D1.out b); clear b)
    | (go_at_call 67; (with_reducible refine (J3.out _).mono ?_); rintro e u3 ⟨rfl, b⟩; have D3 := Lib.hid (bt D2.out b); clear b)
    | (go_at_call 57; (with_reducible refine (J4.out _).mono ?_); rintro e u4 ⟨rfl, b⟩; have D4 := Lib.hid (bt D3.out b); clear b)
    | (go_at_call 69; (with_reducible refine (J5.out _).mono ?_); rintro e u5 ⟨A5, c5, xs, rfl, hS5, hd5, hl5, hv5, b⟩; have S5 := Lib.hid hS5; have Q5 := Lib.hid hd5; have V5 := Lib.hid hv5; have D5 := Lib.hid (bt D4.out b); clear b hS5 hd5 hv5)
    | (go_at_call 69; (with_reducible refine (J6.out _).mono ?_); rintro e u6 ⟨A6, c6, ys, rfl, hS6, hd6, hl6, hv6, b⟩; have S6 := Lib.hid hS6; have Q6 := Lib.hid hd6; have V6 := Lib.hid hv6; have S7 := Lib.hid (S5.out.below b); have D6 := Lib.hid (bt D5.out b); clear b hS6 hd6 hv6)
    | (go_at_call 68; refine (greater_of _ _ _ _ _ _ _ S7.out S6.out Q5.out Q6.out hl5 hl6 _ _ V5.out V6.out _ HH.out).mono ?_; rintro e u7 ⟨rfl, rfl⟩)
    | (go_at_call 56; (with_reducible refine (J7.out _).mono ?_); rintro e u9 ⟨rfl, b⟩; have D9 := Lib.hid (bt D6.out b); clear b))
  go_ret2
  exact ⟨rfl, D9.out⟩
set_option maxRecDepth 100000 in
set_option maxHeartbeats 3200000 in
theorem rr_3_m (s n d fl rs tw : ByteArray) (V D : Nat) (f : Int) (w : World)
    (H1 : ∀ W, Calls Tryz.prog 27 #[.string s] W (IntB 0 W))
    (H2 : ∀ W, Calls Tryz.prog 61 #[.string s] W (TwoW n d W))
    (H3 : ∀ W, Calls Tryz.prog 67 #[.string n, .string d] W (TwoB fl rs 0 W))
    (hz : (rs.toList == [48]) = false)
    (H4 : ∀ W, Calls Tryz.prog 57 #[.string ⟨#[50]⟩, .string rs] W (StE tw f W))
    (H5 : ∀ W, Calls Tryz.prog 69 #[.string tw] W (DgV V W))
    (H6 : ∀ W, Calls Tryz.prog 69 #[.string d] W (DgV D W))
    (hh : cmpN V D = -1)
    (ht : (tw.toList == []) = false) :
    Calls Tryz.prog 33 #[.string s, .int .u8 3] w (StE fl 0 w) := by
  have J1 := Lib.hid H1
  have J2 := Lib.hid H2
  have J3 := Lib.hid H3
  have J4 := Lib.hid H4
  have J5 := Lib.hid H5
  have J6 := Lib.hid H6
  have HH := Lib.hid hh
  clear H1 H2 H3 H4 H5 H6 hh
  go_enter Tryz.func33, Tryz.ntmps33
  go_wp2_with (first
    | (go_at_call 27; (with_reducible refine (J1.out _).mono ?_); rintro e u1 ⟨rfl, b⟩; have D1 := Lib.hid b; clear b)
    | (go_at_call 61; (with_reducible refine (J2.out _).mono ?_); rintro e u2 ⟨rfl, b⟩; have D2 := Lib.hid (bt D1.out b); clear b)
    | (go_at_call 67; (with_reducible refine (J3.out _).mono ?_); rintro e u3 ⟨rfl, b⟩; have D3 := Lib.hid (bt D2.out b); clear b)
    | (go_at_call 57; (with_reducible refine (J4.out _).mono ?_); rintro e u4 ⟨rfl, b⟩; have D4 := Lib.hid (bt D3.out b); clear b)
    | (go_at_call 69; (with_reducible refine (J5.out _).mono ?_); rintro e u5 ⟨A5, c5, xs, rfl, hS5, hd5, hl5, hv5, b⟩; have S5 := Lib.hid hS5; have Q5 := Lib.hid hd5; have V5 := Lib.hid hv5; have D5 := Lib.hid (bt D4.out b); clear b hS5 hd5 hv5)
    | (go_at_call 69; (with_reducible refine (J6.out _).mono ?_); rintro e u6 ⟨A6, c6, ys, rfl, hS6, hd6, hl6, hv6, b⟩; have S6 := Lib.hid hS6; have Q6 := Lib.hid hd6; have V6 := Lib.hid hv6; have S7 := Lib.hid (S5.out.below b); have D6 := Lib.hid (bt D5.out b); clear b hS6 hd6 hv6)
    | (go_at_call 68; refine (greater_of _ _ _ _ _ _ _ S7.out S6.out Q5.out Q6.out hl5 hl6 _ _ V5.out V6.out _ HH.out).mono ?_; rintro e u7 ⟨rfl, rfl⟩))
  go_ret2
  exact ⟨rfl, D6.out⟩
set_option maxRecDepth 100000 in
set_option maxHeartbeats 3200000 in
theorem rr_3_u (s n d fl rs tw up : ByteArray) (V D : Nat) (f : Int) (w : World)
    (H1 : ∀ W, Calls Tryz.prog 27 #[.string s] W (IntB 0 W))
    (H2 : ∀ W, Calls Tryz.prog 61 #[.string s] W (TwoW n d W))
    (H3 : ∀ W, Calls Tryz.prog 67 #[.string n, .string d] W (TwoB fl rs 0 W))
    (hz : (rs.toList == [48]) = false)
    (H4 : ∀ W, Calls Tryz.prog 57 #[.string ⟨#[50]⟩, .string rs] W (StE tw f W))
    (H5 : ∀ W, Calls Tryz.prog 69 #[.string tw] W (DgV V W))
    (H6 : ∀ W, Calls Tryz.prog 69 #[.string d] W (DgV D W))
    (hh : cmpN V D = 1)
    (ht : (tw.toList == []) = false)
    (H7 : ∀ W, Calls Tryz.prog 56 #[.string fl, .string ⟨#[49]⟩] W (StE up 0 W)) :
    Calls Tryz.prog 33 #[.string s, .int .u8 3] w (StE up 0 w) := by
  have J1 := Lib.hid H1
  have J2 := Lib.hid H2
  have J3 := Lib.hid H3
  have J4 := Lib.hid H4
  have J5 := Lib.hid H5
  have J6 := Lib.hid H6
  have HH := Lib.hid hh
  have J7 := Lib.hid H7
  clear H1 H2 H3 H4 H5 H6 hh H7
  go_enter Tryz.func33, Tryz.ntmps33
  go_wp2_with (first
    | (go_at_call 27; (with_reducible refine (J1.out _).mono ?_); rintro e u1 ⟨rfl, b⟩; have D1 := Lib.hid b; clear b)
    | (go_at_call 61; (with_reducible refine (J2.out _).mono ?_); rintro e u2 ⟨rfl, b⟩; have D2 := Lib.hid (bt D1.out b); clear b)
    | (go_at_call 67; (with_reducible refine (J3.out _).mono ?_); rintro e u3 ⟨rfl, b⟩; have D3 := Lib.hid (bt D2.out b); clear b)
    | (go_at_call 57; (with_reducible refine (J4.out _).mono ?_); rintro e u4 ⟨rfl, b⟩; have D4 := Lib.hid (bt D3.out b); clear b)
    | (go_at_call 69; (with_reducible refine (J5.out _).mono ?_); rintro e u5 ⟨A5, c5, xs, rfl, hS5, hd5, hl5, hv5, b⟩; have S5 := Lib.hid hS5; have Q5 := Lib.hid hd5; have V5 := Lib.hid hv5; have D5 := Lib.hid (bt D4.out b); clear b hS5 hd5 hv5)
    | (go_at_call 69; (with_reducible refine (J6.out _).mono ?_); rintro e u6 ⟨A6, c6, ys, rfl, hS6, hd6, hl6, hv6, b⟩; have S6 := Lib.hid hS6; have Q6 := Lib.hid hd6; have V6 := Lib.hid hv6; have S7 := Lib.hid (S5.out.below b); have D6 := Lib.hid (bt D5.out b); clear b hS6 hd6 hv6)
    | (go_at_call 68; refine (greater_of _ _ _ _ _ _ _ S7.out S6.out Q5.out Q6.out hl5 hl6 _ _ V5.out V6.out _ HH.out).mono ?_; rintro e u7 ⟨rfl, rfl⟩)
    | (go_at_call 56; (with_reducible refine (J7.out _).mono ?_); rintro e u9 ⟨rfl, b⟩; have D9 := Lib.hid (bt D6.out b); clear b))
  go_ret2
  exact ⟨rfl, D9.out⟩
set_option maxRecDepth 100000 in
set_option maxHeartbeats 3200000 in
theorem rr_3_t (s n d fl rs tw up : ByteArray) (V D : Nat) (f : Int) (w : World)
    (H1 : ∀ W, Calls Tryz.prog 27 #[.string s] W (IntB 0 W))
    (H2 : ∀ W, Calls Tryz.prog 61 #[.string s] W (TwoW n d W))
    (H3 : ∀ W, Calls Tryz.prog 67 #[.string n, .string d] W (TwoB fl rs 0 W))
    (hz : (rs.toList == [48]) = false)
    (H4 : ∀ W, Calls Tryz.prog 57 #[.string ⟨#[50]⟩, .string rs] W (StE tw f W))
    (H5 : ∀ W, Calls Tryz.prog 69 #[.string tw] W (DgV V W))
    (H6 : ∀ W, Calls Tryz.prog 69 #[.string d] W (DgV D W))
    (hh : cmpN V D = 0)
    (ht : (tw.toList == []) = false)
    (H7 : ∀ W, Calls Tryz.prog 56 #[.string fl, .string ⟨#[49]⟩] W (StE up 0 W))
    (H8 : ∀ W, Calls Tryz.prog 69 #[.string fl] W (DgF true W)) :
    Calls Tryz.prog 33 #[.string s, .int .u8 3] w (StE up 0 w) := by
  have J1 := Lib.hid H1
  have J2 := Lib.hid H2
  have J3 := Lib.hid H3
  have J4 := Lib.hid H4
  have J5 := Lib.hid H5
  have J6 := Lib.hid H6
  have HH := Lib.hid hh
  have J7 := Lib.hid H7
  have J8 := Lib.hid H8
  clear H1 H2 H3 H4 H5 H6 hh H7 H8
  go_enter Tryz.func33, Tryz.ntmps33
  go_wp2_with (first
    | (go_at_call 27; (with_reducible refine (J1.out _).mono ?_); rintro e u1 ⟨rfl, b⟩; have D1 := Lib.hid b; clear b)
    | (go_at_call 61; (with_reducible refine (J2.out _).mono ?_); rintro e u2 ⟨rfl, b⟩; have D2 := Lib.hid (bt D1.out b); clear b)
    | (go_at_call 67; (with_reducible refine (J3.out _).mono ?_); rintro e u3 ⟨rfl, b⟩; have D3 := Lib.hid (bt D2.out b); clear b)
    | (go_at_call 57; (with_reducible refine (J4.out _).mono ?_); rintro e u4 ⟨rfl, b⟩; have D4 := Lib.hid (bt D3.out b); clear b)
    | (go_at_call 69; (with_reducible refine (J5.out _).mono ?_); rintro e u5 ⟨A5, c5, xs, rfl, hS5, hd5, hl5, hv5, b⟩; have S5 := Lib.hid hS5; have Q5 := Lib.hid hd5; have V5 := Lib.hid hv5; have D5 := Lib.hid (bt D4.out b); clear b hS5 hd5 hv5)
    | (go_at_call 69; (with_reducible refine (J6.out _).mono ?_); rintro e u6 ⟨A6, c6, ys, rfl, hS6, hd6, hl6, hv6, b⟩; have S6 := Lib.hid hS6; have Q6 := Lib.hid hd6; have V6 := Lib.hid hv6; have S7 := Lib.hid (S5.out.below b); have D6 := Lib.hid (bt D5.out b); clear b hS6 hd6 hv6)
    | (go_at_call 68; refine (greater_of _ _ _ _ _ _ _ S7.out S6.out Q5.out Q6.out hl5 hl6 _ _ V5.out V6.out _ HH.out).mono ?_; rintro e u7 ⟨rfl, rfl⟩)
    | (go_at_call 69; (with_reducible refine (J8.out _).mono ?_); rintro e u8 ⟨b8, o8, n8, c8, x8, rfl, p8, q8, r8, s8, t8, v8, z8, b⟩; have D8 := Lib.hid (bt D6.out b); clear b)
    | (go_at_call 56; (with_reducible refine (J7.out _).mono ?_); rintro e u9 ⟨rfl, b⟩; have D9 := Lib.hid (bt D8.out b); clear b))
  go_ret2
  exact ⟨rfl, D9.out⟩
set_option maxRecDepth 100000 in
set_option maxHeartbeats 3200000 in
theorem rr_3_f (s n d fl rs tw : ByteArray) (V D : Nat) (f : Int) (w : World)
    (H1 : ∀ W, Calls Tryz.prog 27 #[.string s] W (IntB 0 W))
    (H2 : ∀ W, Calls Tryz.prog 61 #[.string s] W (TwoW n d W))
    (H3 : ∀ W, Calls Tryz.prog 67 #[.string n, .string d] W (TwoB fl rs 0 W))
    (hz : (rs.toList == [48]) = false)
    (H4 : ∀ W, Calls Tryz.prog 57 #[.string ⟨#[50]⟩, .string rs] W (StE tw f W))
    (H5 : ∀ W, Calls Tryz.prog 69 #[.string tw] W (DgV V W))
    (H6 : ∀ W, Calls Tryz.prog 69 #[.string d] W (DgV D W))
    (hh : cmpN V D = 0)
    (ht : (tw.toList == []) = false)
    (H8 : ∀ W, Calls Tryz.prog 69 #[.string fl] W (DgF false W)) :
    Calls Tryz.prog 33 #[.string s, .int .u8 3] w (StE fl 0 w) := by
  have J1 := Lib.hid H1
  have J2 := Lib.hid H2
  have J3 := Lib.hid H3
  have J4 := Lib.hid H4
  have J5 := Lib.hid H5
  have J6 := Lib.hid H6
  have HH := Lib.hid hh
  have J8 := Lib.hid H8
  clear H1 H2 H3 H4 H5 H6 hh H8
  go_enter Tryz.func33, Tryz.ntmps33
  go_wp2_with (first
    | (go_at_call 27; (with_reducible refine (J1.out _).mono ?_); rintro e u1 ⟨rfl, b⟩; have D1 := Lib.hid b; clear b)
    | (go_at_call 61; (with_reducible refine (J2.out _).mono ?_); rintro e u2 ⟨rfl, b⟩; have D2 := Lib.hid (bt D1.out b); clear b)
    | (go_at_call 67; (with_reducible refine (J3.out _).mono ?_); rintro e u3 ⟨rfl, b⟩; have D3 := Lib.hid (bt D2.out b); clear b)
    | (go_at_call 57; (with_reducible refine (J4.out _).mono ?_); rintro e u4 ⟨rfl, b⟩; have D4 := Lib.hid (bt D3.out b); clear b)
    | (go_at_call 69; (with_reducible refine (J5.out _).mono ?_); rintro e u5 ⟨A5, c5, xs, rfl, hS5, hd5, hl5, hv5, b⟩; have S5 := Lib.hid hS5; have Q5 := Lib.hid hd5; have V5 := Lib.hid hv5; have D5 := Lib.hid (bt D4.out b); clear b hS5 hd5 hv5)
    | (go_at_call 69; (with_reducible refine (J6.out _).mono ?_); rintro e u6 ⟨A6, c6, ys, rfl, hS6, hd6, hl6, hv6, b⟩; have S6 := Lib.hid hS6; have Q6 := Lib.hid hd6; have V6 := Lib.hid hv6; have S7 := Lib.hid (S5.out.below b); have D6 := Lib.hid (bt D5.out b); clear b hS6 hd6 hv6)
    | (go_at_call 68; refine (greater_of _ _ _ _ _ _ _ S7.out S6.out Q5.out Q6.out hl5 hl6 _ _ V5.out V6.out _ HH.out).mono ?_; rintro e u7 ⟨rfl, rfl⟩)
    | (go_at_call 69; (with_reducible refine (J8.out _).mono ?_); rintro e u8 ⟨b8, o8, n8, c8, x8, rfl, p8, q8, r8, s8, t8, v8, z8, b⟩; have D8 := Lib.hid (bt D6.out b); clear b))
  go_ret2
  exact ⟨rfl, D8.out⟩
set_option maxRecDepth 100000 in
set_option maxHeartbeats 1600000 in
theorem rr_mode (s : ByteArray) (m : Int) (h5 : 5 ≤ m) (h255 : m ≤ 255) (w : World) :
    Calls Tryz.prog 33 #[.string s, .int .u8 m] w (StE ⟨#[]⟩ 2 w) := by
  go_enter Tryz.func33, Tryz.ntmps33
  go_wp2
  go_ret2
  exact ⟨rfl, Below.refl _ _⟩
set_option maxRecDepth 100000 in
set_option maxHeartbeats 1600000 in
theorem rr_check (s : ByteArray) (m c : Int) (m0 : 0 ≤ m) (m4 : m ≤ 4) (hc : ¬ c = 0) (w : World)
    (H1 : ∀ W, Calls Tryz.prog 27 #[.string s] W (IntB c W)) :
    Calls Tryz.prog 33 #[.string s, .int .u8 m] w (StE ⟨#[]⟩ c w) := by
  have J1 := Lib.hid H1
  have zc : (c == 0) = false := by rw [beq_eq_false_iff_ne]; exact hc
  clear H1 hc
  go_enter Tryz.func33, Tryz.ntmps33
  go_wp2_with fail
  refine (J1.out _).mono ?_
  rintro e u1 ⟨rfl, b⟩
  have D1 := Lib.hid b
  clear b
  go_wp2_with fail
  refine (J1.out _).mono ?_
  rintro e u2 ⟨rfl, b⟩
  have D2 := Lib.hid (bt D1.out b)
  clear b
  go_wp2
  go_ret2
  exact ⟨rfl, D2.out⟩
end Go.Proofs.YtgjhgkglfflmjaaGreatDoor

/- Joined: RatAk, RatAl, RatAm, RatAp. -/
import Derived.Test.YtalnfbgaiegicaaGreatDoorRatAf
import Derived.Test.YtalnfbgaiegicaaGreatDoorRatAi
import Derived.Test.YtalnfbgaiegicaaGreatDoorRatAo
/- The walks of the reference of layer 2: Four, Cross, fraction, Add, Negative, Sub, Mul, Div, Compare. -/
namespace Go.Proofs.YtalnfbgaiegicaaGreatDoor
open Go Go.RowKit

def TwoW (n d : ByteArray) (w : World) (e : Ending) (w2 : World) : Prop := e = .returned (.tuple #[.string n, .string d]) ∧ Below w.heap.size w w2
theorem WriB {n d : ByteArray} {w : World} {e : Ending} {w2 : World} (h : WriR n d w e w2) : TwoW n d w e w2 := by
  obtain ⟨rfl, k, rfl⟩ := h
  exact ⟨rfl, below_drewN (Below.refl _ _) k⟩
set_option maxRecDepth 100000 in
set_option maxHeartbeats 1600000 in
theorem four_ok (s t n d m c : ByteArray) (w : World)
    (H1 : ∀ W, Calls Tryz.prog 42 #[.string s] W (IntB 0 W))
    (H2 : ∀ W, Calls Tryz.prog 42 #[.string t] W (IntB 0 W))
    (H3 : ∀ W, Calls Tryz.prog 73 #[.string s] W (TwoW n d W))
    (H4 : ∀ W, Calls Tryz.prog 73 #[.string t] W (TwoW m c W)) :
    Calls Tryz.prog 77 #[.string s, .string t] w (FourR n d m c 0 w) := by
  have J1 := Lib.hid H1
  have J2 := Lib.hid H2
  have J3 := Lib.hid H3
  have J4 := Lib.hid H4
  clear H1 H2 H3 H4
  go_enter Tryz.func77, Tryz.ntmps77
  go_wp2_with (first
    | (go_at_call 42; (with_reducible refine (J1.out _).mono ?_); rintro e u1 ⟨rfl, b⟩; have D1 := Lib.hid b; clear b)
    | (go_at_call 42; (with_reducible refine (J2.out _).mono ?_); rintro e u2 ⟨rfl, b⟩; have D2 := Lib.hid (bt D1.out b); clear b)
    | (go_at_call 73; (with_reducible refine (J3.out _).mono ?_); rintro e u3 ⟨rfl, b⟩; have D3 := Lib.hid (bt D2.out b); clear b)
    | (go_at_call 73; (with_reducible refine (J4.out _).mono ?_); rintro e u4 ⟨rfl, b⟩; have D4 := Lib.hid (bt D3.out b); clear b))
  exact bodyPost_ret (v := .tuple #[.string n, .string d, .string m, .string c, .int .i64 0]) (by simp [results, Tryz.results77, go_sem]) rfl ⟨rfl, D4.out⟩
set_option maxRecDepth 100000 in
set_option maxHeartbeats 1600000 in
theorem four_one (s t : ByteArray) (c : Int) (hc : ¬ c = 0) (w : World)
    (H1 : ∀ W, Calls Tryz.prog 42 #[.string s] W (IntB c W)) :
    Calls Tryz.prog 77 #[.string s, .string t] w (FourR ⟨#[]⟩ ⟨#[]⟩ ⟨#[]⟩ ⟨#[]⟩ c w) := by
  have J1 := Lib.hid H1
  have zc : (c == 0) = false := by rw [beq_eq_false_iff_ne]; exact hc
  clear H1 hc
  go_enter Tryz.func77, Tryz.ntmps77
  go_wp2_with fail
  refine (J1.out _).mono ?_
  rintro e u1 ⟨rfl, b⟩
  have D1 := Lib.hid b
  clear b
  go_wp2_with fail
  refine (J1.out _).mono ?_
  rintro e u2 ⟨rfl, b⟩
  have D2 := Lib.hid (bt D1.out b)
  clear b
  go_wp2
  exact bodyPost_ret (v := .tuple #[.string ⟨#[]⟩, .string ⟨#[]⟩, .string ⟨#[]⟩, .string ⟨#[]⟩, .int .i64 c]) (by simp [results, Tryz.results77, go_sem]) rfl ⟨rfl, D2.out⟩
set_option maxRecDepth 100000 in
set_option maxHeartbeats 1600000 in
theorem four_two (s t : ByteArray) (c : Int) (hc : ¬ c = 0) (w : World)
    (H1 : ∀ W, Calls Tryz.prog 42 #[.string s] W (IntB 0 W))
    (H2 : ∀ W, Calls Tryz.prog 42 #[.string t] W (IntB c W)) :
    Calls Tryz.prog 77 #[.string s, .string t] w (FourR ⟨#[]⟩ ⟨#[]⟩ ⟨#[]⟩ ⟨#[]⟩ c w) := by
  have J1 := Lib.hid H1
  have J2 := Lib.hid H2
  have zc : (c == 0) = false := by rw [beq_eq_false_iff_ne]; exact hc
  clear H1 H2 hc
  go_enter Tryz.func77, Tryz.ntmps77
  go_wp2_with fail
  refine (J1.out _).mono ?_
  rintro e u1 ⟨rfl, b⟩
  have D1 := Lib.hid b
  clear b
  go_wp2_with fail
  refine (J2.out _).mono ?_
  rintro e u2 ⟨rfl, b⟩
  have D2 := Lib.hid (bt D1.out b)
  clear b
  go_wp2_with fail
  refine (J2.out _).mono ?_
  rintro e u3 ⟨rfl, b⟩
  have D3 := Lib.hid (bt D2.out b)
  clear b
  go_wp2
  exact bodyPost_ret (v := .tuple #[.string ⟨#[]⟩, .string ⟨#[]⟩, .string ⟨#[]⟩, .string ⟨#[]⟩, .int .i64 c]) (by simp [results, Tryz.results77, go_sem]) rfl ⟨rfl, D3.out⟩
set_option maxRecDepth 100000 in
set_option maxHeartbeats 1600000 in
theorem frac_1 (n d : ByteArray) (f g : Int) (hf : ¬ f = 0) (w : World) :
    Calls Tryz.prog 79 #[.string n, .string d, .int .i64 f, .int .i64 g] w (StE ⟨#[]⟩ 14 w) := by
  have zf : (f == 0) = false := by rw [beq_eq_false_iff_ne]; exact hf
  clear  hf
  go_enter Tryz.func79, Tryz.ntmps79
  go_wp2
  go_ret2
  exact ⟨rfl, Below.refl _ _⟩
set_option maxRecDepth 100000 in
set_option maxHeartbeats 1600000 in
theorem frac_2 (n d : ByteArray) (g : Int) (hg : ¬ g = 0) (w : World) :
    Calls Tryz.prog 79 #[.string n, .string d, .int .i64 0, .int .i64 g] w (StE ⟨#[]⟩ 14 w) := by
  have zg : (g == 0) = false := by rw [beq_eq_false_iff_ne]; exact hg
  clear  hg
  go_enter Tryz.func79, Tryz.ntmps79
  go_wp2
  go_ret2
  exact ⟨rfl, Below.refl _ _⟩
set_option maxRecDepth 100000 in
set_option maxHeartbeats 1600000 in
theorem frac_ok (n d R : ByteArray) (c : Int) (w : World)
    (H1 : ∀ W, Calls Tryz.prog 80 #[.string n, .string d] W (StE R c W)) :
    Calls Tryz.prog 79 #[.string n, .string d, .int .i64 0, .int .i64 0] w (StE R c w) := by
  have J1 := Lib.hid H1
  clear H1
  go_enter Tryz.func79, Tryz.ntmps79
  go_wp2_with (first
    | (go_at_call 80; (with_reducible refine (J1.out _).mono ?_); rintro e u1 ⟨rfl, b⟩; have D1 := Lib.hid b; clear b))
  go_ret2
  exact ⟨rfl, D1.out⟩
set_option maxRecDepth 100000 in
set_option maxHeartbeats 1600000 in
theorem rfmul_e (s t n d m k : ByteArray) (c : Int) (hc : ¬ c = 0) (w : World)
    (H1 : ∀ W, Calls Tryz.prog 77 #[.string s, .string t] W (FourR n d m k c W)) :
    Calls Tryz.prog 43 #[.string s, .string t] w (StE ⟨#[]⟩ c w) := by
  have J1 := Lib.hid H1
  have zc : (c == 0) = false := by rw [beq_eq_false_iff_ne]; exact hc
  clear H1 hc
  go_enter Tryz.func43, Tryz.ntmps43
  go_wp2_with (first
    | (go_at_call 77; (with_reducible refine (J1.out _).mono ?_); rintro e u1 ⟨rfl, b⟩; have D1 := Lib.hid b; clear b))
  go_ret2
  exact ⟨rfl, D1.out⟩
set_option maxRecDepth 100000 in
set_option maxHeartbeats 1600000 in
theorem rfmul_ok (s t n d m k x y R : ByteArray) (f g c : Int) (w : World)
    (H1 : ∀ W, Calls Tryz.prog 77 #[.string s, .string t] W (FourR n d m k 0 W))
    (H2 : ∀ W, Calls Tryz.prog 78 #[.string n, .string m] W (StE x f W))
    (H3 : ∀ W, Calls Tryz.prog 78 #[.string d, .string k] W (StE y g W))
    (H4 : ∀ W, Calls Tryz.prog 79 #[.string x, .string y, .int .i64 f, .int .i64 g] W (StE R c W)) :
    Calls Tryz.prog 43 #[.string s, .string t] w (StE R c w) := by
  have J1 := Lib.hid H1
  have J2 := Lib.hid H2
  have J3 := Lib.hid H3
  have J4 := Lib.hid H4
  clear H1 H2 H3 H4
  go_enter Tryz.func43, Tryz.ntmps43
  go_wp2_with (first
    | (go_at_call 77; (with_reducible refine (J1.out _).mono ?_); rintro e u1 ⟨rfl, b⟩; have D1 := Lib.hid b; clear b)
    | (go_at_call 78; (with_reducible refine (J2.out _).mono ?_); rintro e u2 ⟨rfl, b⟩; have D2 := Lib.hid (bt D1.out b); clear b)
    | (go_at_call 78; (with_reducible refine (J3.out _).mono ?_); rintro e u3 ⟨rfl, b⟩; have D3 := Lib.hid (bt D2.out b); clear b)
    | (go_at_call 79; (with_reducible refine (J4.out _).mono ?_); rintro e u4 ⟨rfl, b⟩; have D4 := Lib.hid (bt D3.out b); clear b))
  go_ret2
  exact ⟨rfl, D4.out⟩
/-- Products and sums of two integers' texts by the reference. -/
def lT (z : Int) : ByteArray := if LB z = true then rep z else ⟨#[]⟩
def lC (z : Int) : Int := if LB z = true then 0 else 14
theorem lT_ok {z : Int} (h : LB z = true) : lT z = rep z := if_pos h
theorem lC_ok {z : Int} (h : LB z = true) : lC z = 0 := if_pos h
theorem lC_no {z : Int} (h : LB z = false) : lC z = 14 := if_neg (by rw [h]; decide)
theorem limS_l (z : Int) : (⟨(limS z).1.toArray⟩ : ByteArray) = lT z ∧ (limS z).2 = lC z := by
  unfold limS lT lC
  cases h : LB z
  · rw [if_neg (LB_false h), if_neg (by decide), if_neg (by decide)]; exact ⟨rfl, rfl⟩
  · rw [if_pos (LB_true.1 h), if_pos rfl, if_pos rfl]; exact ⟨rfl, rfl⟩
theorem refmul_l {x y z : Int} (hx : x.natAbs < lim) (hy : y.natAbs < lim) (hz : x * y = z) (w : World) : Calls Tryz.prog 78 #[.string (rep x), .string (rep y)] w (StE (lT z) (lC z) w) := by
  subst hz
  have h := refMul_any (rep x) (rep y) (rep_small hx) (rep_small hy) w
  rw [rep_data, rep_data, opS_ok (chk_rep hx hy), num_itoa, num_itoa, (limS_l _).1, (limS_l _).2] at h
  exact h
theorem refadd_l {x y z : Int} (hx : x.natAbs < lim) (hy : y.natAbs < lim) (hz : x + y = z) (w : World) : Calls Tryz.prog 84 #[.string (rep x), .string (rep y)] w (StE (lT z) (lC z) w) := by
  subst hz
  have h := refAdd_any (rep x) (rep y) (rep_small hx) (rep_small hy) w
  rw [rep_data, rep_data, opS_ok (chk_rep hx hy), num_itoa, num_itoa, (limS_l _).1, (limS_l _).2] at h
  exact h
/-- The fraction of two computed integers. -/
theorem frac_l {x y : Int} {q : Rat} (h0 : y ≠ 0) (hq : Rat.divInt x y = q) (c : Int) (hc : (if LB x && LB y then 0 else 14) = c) (w : World) :
    Calls Tryz.prog 79 #[.string (lT x), .string (lT y), .int .i64 (lC x), .int .i64 (lC y)] w (StE (qT c q) c w) := by
  cases h1 : LB x
  · rw [h1] at hc
    obtain rfl : 14 = c := hc
    rw [qT_err (by decide)]
    exact frac_1 _ _ _ _ (by rw [lC_no h1]; decide) w
  cases h2 : LB y
  · rw [h1, h2] at hc
    obtain rfl : 14 = c := hc
    rw [qT_err (by decide), lC_ok h1]
    exact frac_2 _ _ _ (by rw [lC_no h2]; decide) w
  rw [h1, h2] at hc
  obtain rfl : 0 = c := hc
  rw [lC_ok h1, lC_ok h2, lT_ok h1, lT_ok h2, qT_ok]
  refine frac_ok _ _ _ _ w (fun W => ?_)
  have hx := LB_true.1 h1
  have hy := LB_true.1 h2
  have h := refMake_any (rep x) (rep y) (rep_small hx) (rep_small hy) W
  rw [rep_data, rep_data, mkS_ok (chk_rep hx hy) (by rw [num_itoa]; exact h0), num_itoa, num_itoa, qN_rat h0, qD_rat h0, hq] at h
  exact h
theorem rcheck_q {q : Rat} (h : Sml q) (W : World) : Calls Tryz.prog 42 #[.string (rq q)] W (IntB 0 W) := by
  have k := refRCheck_any (rq q) (by have := rq_size h; omega) W
  rw [rq_chk h] at k
  exact k
theorem rwritten_q {q : Rat} (h : Sml q) (W : World) : Calls Tryz.prog 73 #[.string (rq q)] W (TwoW (rep q.num) (rep (q.den : Int)) W) := by
  have k := written_any (rq q) (by have := rq_size h; omega) W
  rw [rq_nB, rq_dB] at k
  exact k.mono fun e w h => WriB h
theorem four_q {a b : Rat} (ha : Sml a) (hb : Sml b) (w : World) : Calls Tryz.prog 77 #[.string (rq a), .string (rq b)] w (FourR (rep a.num) (rep (a.den : Int)) (rep b.num) (rep (b.den : Int)) 0 w) :=
  four_ok _ _ _ _ _ _ w (rcheck_q ha) (rcheck_q hb) (rwritten_q ha) (rwritten_q hb)
/-- Four of texts, one of them wrong. -/
theorem four_bad (f : Rat → Rat → Int) (s t : ByteArray) (hs : s.size ≤ 1048576) (ht : t.size ≤ 1048576) :
    (¬ twC f s.data.toList t.data.toList = 0 ∧ ∀ w, Calls Tryz.prog 77 #[.string s, .string t] w (FourR ⟨#[]⟩ ⟨#[]⟩ ⟨#[]⟩ ⟨#[]⟩ (twC f s.data.toList t.data.toList) w)) ∨ ∃ a b, s = rq a ∧ t = rq b ∧ Sml a ∧ Sml b := by
  rcases text_cases s with h1 | ⟨a, rfl, ha⟩
  · left
    rw [twC_l h1]
    exact ⟨h1, fun w => four_one _ _ _ h1 w (refRCheck_any s hs)⟩
  rcases text_cases t with h2 | ⟨b, rfl, hb⟩
  · left
    rw [twC_r (rq_chk ha) h2]
    exact ⟨h2, fun w => four_two _ _ _ h2 w (rcheck_q ha) (refRCheck_any t ht)⟩
  · exact .inr ⟨a, b, rfl, rfl, ha, hb⟩
theorem rq_minus {q : Rat} (h : 0 < q.num) : (⟨#[45]⟩ : ByteArray) ++ rq q = rq (-q) := by
  obtain ⟨u, hu⟩ := Int.eq_ofNat_of_zero_le (show 0 ≤ q.num by omega)
  apply WideShapes.bytes_inj
  rw [show ((⟨#[45]⟩ : ByteArray) ++ rq q).data.toList = 45 :: (rq q).data.toList by simp, rq_data, rq_data, Rat.neg_num, Rat.neg_den, hu, itoa_neg u (by omega), itoa_pos]
  unfold txtL
  split <;> rfl
theorem sml_neg {q : Rat} (h : Sml q) : Sml (-q) := ⟨by rw [Rat.neg_num, Int.natAbs_neg]; exact h.1, by rw [Rat.neg_den]; exact h.2⟩
theorem LB_neg (z : Int) : LB (-z) = LB z := by unfold LB; rw [Int.natAbs_neg]
theorem addC_neg (a b : Rat) : addC a (-b) = subC a b := by
  unfold addC subC
  rw [Rat.neg_num, Rat.neg_den, Int.neg_mul, LB_neg, ← Int.sub_eq_add_neg]
theorem refrmul_any (s t : ByteArray) (hs : s.size ≤ 1048576) (ht : t.size ≤ 1048576) (w : World) :
    Calls Tryz.prog 43 #[.string s, .string t] w (StE (twT mulC (· * ·) s.data.toList t.data.toList) (twC mulC s.data.toList t.data.toList) w) := by
  rcases four_bad mulC s t hs ht with ⟨h, H⟩ | ⟨a, b, rfl, rfl, ha, hb⟩
  · unfold twT
    rw [qT_err h]
    exact rfmul_e _ _ _ _ _ _ _ h w H
  · rw [twT_rq ha hb, twC_rq ha hb]
    exact rfmul_ok _ _ _ _ _ _ _ _ _ _ _ _ w (four_q ha hb) (fun W => refmul_l ha.1 hb.1 rfl W) (fun W => refmul_l ha.2 hb.2 rfl W) (fun W => frac_l (den_mul_ne a b) (rat_mul a b).symm _ rfl W)
end Go.Proofs.YtalnfbgaiegicaaGreatDoor
/- The walks of the reference of layer 2: digits, Round. -/
namespace Go.Proofs.YtalnfbgaiegicaaGreatDoor
open Go Go.RowKit

/-- A list of digits of worth V. -/
def DgV (V : Nat) (w : World) (e : Ending) (w' : World) : Prop := ∃ A c xs, e = .returned (.slice A xs.length c) ∧ SlA encI w' A xs ∧ (∀ d ∈ xs, d < 10) ∧ xs.length ≤ 1000 ∧ vl 10 xs = V ∧ Below w.heap.size w w'
theorem digits2_raw (s : ByteArray) (h : chk s.data.toList = 0) (hlen : s.size ≤ 1099511627776) (w : World) :
    Calls Tryz.prog 83 #[.string s] w fun e w' => ∃ A c, e = .returned (.slice A (dgs (bod s.data.toList)).length c) ∧ SlA encI w' A (dgs (bod s.data.toList)) ∧ Below w.heap.size w w' := by
  have HD : Hid (∀ W, Calls Tryz.prog 74 #[.string s] W fun e w' => ∃ A c, e = .returned (.tuple #[.slice A (dgs (bod s.data.toList)).length c, .bool (ngB s.data.toList), .bool true]) ∧ SlA encI w' A (dgs (bod s.data.toList)) ∧ Below W.heap.size W w') := fun W => by
    refine (digits_yes s W (by rw [h]; decide) hlen).mono ?_
    rintro e w' ⟨v, rfl, hown, hb⟩
    obtain ⟨A, c, rfl, hn, hS⟩ := SlA.of_own hown
    exact ⟨A, c, by rw [dgs_length], hS, hb⟩
  clear h hlen
  generalize dgs (bod s.data.toList) = xs at *
  generalize ngB s.data.toList = g at *
  go_enter Tryz.func83, Tryz.ntmps83
  go_wp2_with (go_at_call 74; refine (HD.out _).mono ?_; rintro e w1 ⟨A, c, rfl, hS, hb1⟩; have HS := Lib.hid hS; clear hS)
  go_ret
  exact ⟨A, c, rfl, HS.out, hb1⟩
theorem digits2_any (s : ByteArray) (h : chk s.data.toList = 0) (hlen : s.size ≤ 1099511627776) (V : Nat) (hV : (num s.data.toList).natAbs = V) (w : World) :
    Calls Tryz.prog 83 #[.string s] w (DgV V w) := by
  refine (digits2_raw s h hlen w).mono ?_
  rintro e w' ⟨A, c, rfl, hS, hb⟩
  obtain ⟨h1, h2⟩ := bod_len_of_chk h
  exact ⟨A, c, _, rfl, hS, h2, by rw [dgs_length]; exact h1, by rw [← hV, num_natAbs], hb⟩
theorem bod_some {l : List UInt8} (h : chk l = 0) : 0 < (bod l).length := by
  rcases can_cases l (by rw [h]; decide) with rfl | ⟨hs, _⟩
  · decide
  · cases hb : bod l with
    | nil => rw [hb] at hs; cases hs
    | cons c r => simp
theorem digits2_nil (w : World) : Calls Tryz.prog 83 #[.string ⟨#[]⟩] w (DgV 0 w) := by
  have HD := Lib.hid (fun W => digits_no ⟨#[]⟩ W (by decide) (by decide))
  go_enter Tryz.func83, Tryz.ntmps83
  go_wp2_with (go_at_call 74; refine (HD.out _).mono ?_; rintro e w1 ⟨rfl, hb1⟩)
  go_ret
  exact ⟨none, 0, [], rfl, SlA.nil, by simp, by simp, rfl, hb1⟩
/-- The first digit, odd or not. -/
def DgF (odd : Bool) (w : World) (e : Ending) (w' : World) : Prop := ∃ (b o' n c : Nat) (x : Int), e = .returned (.slice (some ⟨b, o', none⟩) n c) ∧ 0 < n ∧ n ≤ 1000 ∧ w'.cell? ⟨b, o', none⟩ = some (.int .i64 x) ∧ w'.cell? ⟨b, o' + 0, none⟩ = some (.int .i64 x) ∧ 0 ≤ x ∧ x ≤ 9 ∧ (x % 2 == 1) = odd ∧ Below w.heap.size w w'
theorem digits2_first (s : ByteArray) (h : chk s.data.toList = 0) (hlen : s.size ≤ 1099511627776) (odd : Bool) (ho : decide (num s.data.toList % 2 = 1) = odd) (w : World) :
    Calls Tryz.prog 83 #[.string s] w (DgF odd w) := by
  have hV := num_natAbs s.data.toList
  have hne : 0 < (dgs (bod s.data.toList)).length := by rw [dgs_length]; exact bod_some h
  obtain ⟨h1, hd⟩ := bod_len_of_chk h
  rw [← dgs_length] at h1
  refine (digits2_raw s h hlen w).mono ?_
  rintro e w' ⟨A, c, rfl, hS, hb⟩
  generalize dgs (bod s.data.toList) = xs at *
  obtain ⟨b, o', rfl, _, hc⟩ := hS.get (j := 0) hne
  match xs, hne with
  | x :: r, _ =>
    have hx := hd x (by simp)
    refine ⟨b, o', _, _, (x : Int), rfl, by simp, h1, hc, hc, by omega, by omega, ?_, hb⟩
    rw [← ho]
    have e : vl 10 (x :: r) = x + 10 * vl 10 r := rfl
    rw [e] at hV
    by_cases h1 : (x : Int) % 2 = 1
    · rw [decide_eq_true (show num s.data.toList % 2 = 1 by omega)]; simpa using h1
    · rw [decide_eq_false (show ¬ num s.data.toList % 2 = 1 by omega)]; simpa using h1
theorem greater_of (A B : Option Addr) (ca cb : Nat) (xs ys : List Nat) (w : World) (hA : SlA encI w A xs) (hB : SlA encI w B ys) (ha : ∀ d ∈ xs, d < 10) (hb : ∀ d ∈ ys, d < 10) (hla : xs.length ≤ 1000) (hlb : ys.length ≤ 1000)
    (V D : Nat) (hV : vl 10 xs = V) (hD : vl 10 ys = D) (h : Int) (hh : cmpN V D = h) :
    Calls Tryz.prog 82 #[.slice A xs.length ca, .slice B ys.length cb] w (IntR h w) := by
  subst hV; subst hD; subst hh
  exact greater_any A B ca cb xs ys w hA hB ha hb (by omega) (by omega)

set_option maxRecDepth 100000 in
set_option maxHeartbeats 3200000 in
theorem rr_zero (s n d fl rs : ByteArray) (m : Int) (m0 : 0 ≤ m) (m4 : m ≤ 4) (w : World)
    (H1 : ∀ W, Calls Tryz.prog 42 #[.string s] W (IntB 0 W))
    (H2 : ∀ W, Calls Tryz.prog 73 #[.string s] W (TwoW n d W))
    (H3 : ∀ W, Calls Tryz.prog 81 #[.string n, .string d] W (TwoB fl rs 0 W))
    (hz : (rs.toList == [48]) = true) :
    Calls Tryz.prog 46 #[.string s, .int .u8 m] w (StE fl 0 w) := by
  have J1 := Lib.hid H1
  have J2 := Lib.hid H2
  have J3 := Lib.hid H3
  clear H1 H2 H3
  go_enter Tryz.func46, Tryz.ntmps46
  go_wp2_with (first
    | (go_at_call 42; (with_reducible refine (J1.out _).mono ?_); rintro e u1 ⟨rfl, b⟩; have D1 := Lib.hid b; clear b)
    | (go_at_call 73; (with_reducible refine (J2.out _).mono ?_); rintro e u2 ⟨rfl, b⟩; have D2 := Lib.hid (bt D1.out b); clear b)
    | (go_at_call 81; (with_reducible refine (J3.out _).mono ?_); rintro e u3 ⟨rfl, b⟩; have D3 := Lib.hid (bt D2.out b); clear b))
  go_ret2
  exact ⟨rfl, D3.out⟩
set_option maxRecDepth 100000 in
set_option maxHeartbeats 3200000 in
theorem rr_4 (s n d fl rs : ByteArray) (w : World)
    (H1 : ∀ W, Calls Tryz.prog 42 #[.string s] W (IntB 0 W))
    (H2 : ∀ W, Calls Tryz.prog 73 #[.string s] W (TwoW n d W))
    (H3 : ∀ W, Calls Tryz.prog 81 #[.string n, .string d] W (TwoB fl rs 0 W))
    (hz : (rs.toList == [48]) = false) :
    Calls Tryz.prog 46 #[.string s, .int .u8 4] w (StE fl 0 w) := by
  have J1 := Lib.hid H1
  have J2 := Lib.hid H2
  have J3 := Lib.hid H3
  clear H1 H2 H3
  go_enter Tryz.func46, Tryz.ntmps46
  go_wp2_with (first
    | (go_at_call 42; (with_reducible refine (J1.out _).mono ?_); rintro e u1 ⟨rfl, b⟩; have D1 := Lib.hid b; clear b)
    | (go_at_call 73; (with_reducible refine (J2.out _).mono ?_); rintro e u2 ⟨rfl, b⟩; have D2 := Lib.hid (bt D1.out b); clear b)
    | (go_at_call 81; (with_reducible refine (J3.out _).mono ?_); rintro e u3 ⟨rfl, b⟩; have D3 := Lib.hid (bt D2.out b); clear b))
  go_ret2
  exact ⟨rfl, D3.out⟩
set_option maxRecDepth 100000 in
set_option maxHeartbeats 3200000 in
theorem rr_0_n_o (s n d fl rs tw up : ByteArray) (V D : Nat) (f h : Int) (w : World)
    (H1 : ∀ W, Calls Tryz.prog 42 #[.string s] W (IntB 0 W))
    (H2 : ∀ W, Calls Tryz.prog 73 #[.string s] W (TwoW n d W))
    (H3 : ∀ W, Calls Tryz.prog 81 #[.string n, .string d] W (TwoB fl rs 0 W))
    (hz : (rs.toList == [48]) = false)
    (H4 : ∀ W, Calls Tryz.prog 78 #[.string ⟨#[50]⟩, .string rs] W (StE tw f W))
    (H5 : ∀ W, Calls Tryz.prog 83 #[.string tw] W (DgV V W))
    (H6 : ∀ W, Calls Tryz.prog 83 #[.string d] W (DgV D W))
    (hh : cmpN V D = h)
    (ht : (tw.toList == []) = true)
    (H7 : ∀ W, Calls Tryz.prog 84 #[.string fl, .string ⟨#[49]⟩] W (StE up 0 W))
    (n0 : 0 < n.size)
    (n1 : ((n[0].toNat : Int) == 45) = true) :
    Calls Tryz.prog 46 #[.string s, .int .u8 0] w (StE up 0 w) := by
  have J1 := Lib.hid H1
  have J2 := Lib.hid H2
  have J3 := Lib.hid H3
  have J4 := Lib.hid H4
  have J5 := Lib.hid H5
  have J6 := Lib.hid H6
  have HH := Lib.hid hh
  have J7 := Lib.hid H7
  clear H1 H2 H3 H4 H5 H6 hh H7
  go_enter Tryz.func46, Tryz.ntmps46
  go_wp2_with (first
    | (go_at_call 42; (with_reducible refine (J1.out _).mono ?_); rintro e u1 ⟨rfl, b⟩; have D1 := Lib.hid b; clear b)
    | (go_at_call 73; (with_reducible refine (J2.out _).mono ?_); rintro e u2 ⟨rfl, b⟩; have D2 := Lib.hid (bt D1.out b); clear b)
    | (go_at_call 81; (with_reducible refine (J3.out _).mono ?_); rintro e u3 ⟨rfl, b⟩; have D3 := Lib.hid (bt D2.out b); clear b)
    | (go_at_call 78; (with_reducible refine (J4.out _).mono ?_); rintro e u4 ⟨rfl, b⟩; have D4 := Lib.hid (bt D3.out b); clear b)
    | (go_at_call 83; (with_reducible refine (J5.out _).mono ?_); rintro e u5 ⟨A5, c5, xs, rfl, hS5, hd5, hl5, hv5, b⟩; have S5 := Lib.hid hS5; have Q5 := Lib.hid hd5; have V5 := Lib.hid hv5; have D5 := Lib.hid (bt D4.out b); clear b hS5 hd5 hv5)
    | (go_at_call 83; (with_reducible refine (J6.out _).mono ?_); rintro e u6 ⟨A6, c6, ys, rfl, hS6, hd6, hl6, hv6, b⟩; have S6 := Lib.hid hS6; have Q6 := Lib.hid hd6; have V6 := Lib.hid hv6; have S7 := Lib.hid (S5.out.below b); have D6 := Lib.hid (bt D5.out b); clear b hS6 hd6 hv6)
    | (go_at_call 82; refine (greater_of _ _ _ _ _ _ _ S7.out S6.out Q5.out Q6.out hl5 hl6 _ _ V5.out V6.out _ HH.out).mono ?_; rintro e u7 ⟨rfl, rfl⟩)
    | (go_at_call 84; (with_reducible refine (J7.out _).mono ?_); rintro e u9 ⟨rfl, b⟩; have D9 := Lib.hid (bt D6.out b); clear b))
  go_ret2
  exact ⟨rfl, D9.out⟩
set_option maxRecDepth 100000 in
set_option maxHeartbeats 3200000 in
theorem rr_0_n_f (s n d fl rs tw up : ByteArray) (V D : Nat) (f h : Int) (w : World)
    (H1 : ∀ W, Calls Tryz.prog 42 #[.string s] W (IntB 0 W))
    (H2 : ∀ W, Calls Tryz.prog 73 #[.string s] W (TwoW n d W))
    (H3 : ∀ W, Calls Tryz.prog 81 #[.string n, .string d] W (TwoB fl rs 0 W))
    (hz : (rs.toList == [48]) = false)
    (H4 : ∀ W, Calls Tryz.prog 78 #[.string ⟨#[50]⟩, .string rs] W (StE tw f W))
    (H5 : ∀ W, Calls Tryz.prog 83 #[.string tw] W (DgV V W))
    (H6 : ∀ W, Calls Tryz.prog 83 #[.string d] W (DgV D W))
    (hh : cmpN V D = h)
    (ht : (tw.toList == []) = false)
    (H7 : ∀ W, Calls Tryz.prog 84 #[.string fl, .string ⟨#[49]⟩] W (StE up 0 W))
    (n0 : 0 < n.size)
    (n1 : ((n[0].toNat : Int) == 45) = true) :
    Calls Tryz.prog 46 #[.string s, .int .u8 0] w (StE up 0 w) := by
  have J1 := Lib.hid H1
  have J2 := Lib.hid H2
  have J3 := Lib.hid H3
  have J4 := Lib.hid H4
  have J5 := Lib.hid H5
  have J6 := Lib.hid H6
  have HH := Lib.hid hh
  have J7 := Lib.hid H7
  clear H1 H2 H3 H4 H5 H6 hh H7
  go_enter Tryz.func46, Tryz.ntmps46
  go_wp2_with (first
    | (go_at_call 42; (with_reducible refine (J1.out _).mono ?_); rintro e u1 ⟨rfl, b⟩; have D1 := Lib.hid b; clear b)
    | (go_at_call 73; (with_reducible refine (J2.out _).mono ?_); rintro e u2 ⟨rfl, b⟩; have D2 := Lib.hid (bt D1.out b); clear b)
    | (go_at_call 81; (with_reducible refine (J3.out _).mono ?_); rintro e u3 ⟨rfl, b⟩; have D3 := Lib.hid (bt D2.out b); clear b)
    | (go_at_call 78; (with_reducible refine (J4.out _).mono ?_); rintro e u4 ⟨rfl, b⟩; have D4 := Lib.hid (bt D3.out b); clear b)
    | (go_at_call 83; (with_reducible refine (J5.out _).mono ?_); rintro e u5 ⟨A5, c5, xs, rfl, hS5, hd5, hl5, hv5, b⟩; have S5 := Lib.hid hS5; have Q5 := Lib.hid hd5; have V5 := Lib.hid hv5; have D5 := Lib.hid (bt D4.out b); clear b hS5 hd5 hv5)
    | (go_at_call 83; (with_reducible refine (J6.out _).mono ?_); rintro e u6 ⟨A6, c6, ys, rfl, hS6, hd6, hl6, hv6, b⟩; have S6 := Lib.hid hS6; have Q6 := Lib.hid hd6; have V6 := Lib.hid hv6; have S7 := Lib.hid (S5.out.below b); have D6 := Lib.hid (bt D5.out b); clear b hS6 hd6 hv6)
    | (go_at_call 82; refine (greater_of _ _ _ _ _ _ _ S7.out S6.out Q5.out Q6.out hl5 hl6 _ _ V5.out V6.out _ HH.out).mono ?_; rintro e u7 ⟨rfl, rfl⟩)
    | (go_at_call 84; (with_reducible refine (J7.out _).mono ?_); rintro e u9 ⟨rfl, b⟩; have D9 := Lib.hid (bt D6.out b); clear b))
  go_ret2
  exact ⟨rfl, D9.out⟩
set_option maxRecDepth 100000 in
set_option maxHeartbeats 3200000 in
theorem rr_0_p_o (s n d fl rs tw : ByteArray) (V D : Nat) (f h : Int) (w : World)
    (H1 : ∀ W, Calls Tryz.prog 42 #[.string s] W (IntB 0 W))
    (H2 : ∀ W, Calls Tryz.prog 73 #[.string s] W (TwoW n d W))
    (H3 : ∀ W, Calls Tryz.prog 81 #[.string n, .string d] W (TwoB fl rs 0 W))
    (hz : (rs.toList == [48]) = false)
    (H4 : ∀ W, Calls Tryz.prog 78 #[.string ⟨#[50]⟩, .string rs] W (StE tw f W))
    (H5 : ∀ W, Calls Tryz.prog 83 #[.string tw] W (DgV V W))
    (H6 : ∀ W, Calls Tryz.prog 83 #[.string d] W (DgV D W))
    (hh : cmpN V D = h)
    (ht : (tw.toList == []) = true)
    (n0 : 0 < n.size)
    (n1 : ((n[0].toNat : Int) == 45) = false) :
    Calls Tryz.prog 46 #[.string s, .int .u8 0] w (StE fl 0 w) := by
  have J1 := Lib.hid H1
  have J2 := Lib.hid H2
  have J3 := Lib.hid H3
  have J4 := Lib.hid H4
  have J5 := Lib.hid H5
  have J6 := Lib.hid H6
  have HH := Lib.hid hh
  clear H1 H2 H3 H4 H5 H6 hh
  go_enter Tryz.func46, Tryz.ntmps46
  go_wp2_with (first
    | (go_at_call 42; (with_reducible refine (J1.out _).mono ?_); rintro e u1 ⟨rfl, b⟩; have D1 := Lib.hid b; clear b)
    | (go_at_call 73; (with_reducible refine (J2.out _).mono ?_); rintro e u2 ⟨rfl, b⟩; have D2 := Lib.hid (bt D1.out b); clear b)
    | (go_at_call 81; (with_reducible refine (J3.out _).mono ?_); rintro e u3 ⟨rfl, b⟩; have D3 := Lib.hid (bt D2.out b); clear b)
    | (go_at_call 78; (with_reducible refine (J4.out _).mono ?_); rintro e u4 ⟨rfl, b⟩; have D4 := Lib.hid (bt D3.out b); clear b)
    | (go_at_call 83; (with_reducible refine (J5.out _).mono ?_); rintro e u5 ⟨A5, c5, xs, rfl, hS5, hd5, hl5, hv5, b⟩; have S5 := Lib.hid hS5; have Q5 := Lib.hid hd5; have V5 := Lib.hid hv5; have D5 := Lib.hid (bt D4.out b); clear b hS5 hd5 hv5)
    | (go_at_call 83; (with_reducible refine (J6.out _).mono ?_); rintro e u6 ⟨A6, c6, ys, rfl, hS6, hd6, hl6, hv6, b⟩; have S6 := Lib.hid hS6; have Q6 := Lib.hid hd6; have V6 := Lib.hid hv6; have S7 := Lib.hid (S5.out.below b); have D6 := Lib.hid (bt D5.out b); clear b hS6 hd6 hv6)
    | (go_at_call 82; refine (greater_of _ _ _ _ _ _ _ S7.out S6.out Q5.out Q6.out hl5 hl6 _ _ V5.out V6.out _ HH.out).mono ?_; rintro e u7 ⟨rfl, rfl⟩))
  go_ret2
  exact ⟨rfl, D6.out⟩
set_option maxRecDepth 100000 in
set_option maxHeartbeats 3200000 in
theorem rr_0_p_f (s n d fl rs tw : ByteArray) (V D : Nat) (f h : Int) (w : World)
    (H1 : ∀ W, Calls Tryz.prog 42 #[.string s] W (IntB 0 W))
    (H2 : ∀ W, Calls Tryz.prog 73 #[.string s] W (TwoW n d W))
    (H3 : ∀ W, Calls Tryz.prog 81 #[.string n, .string d] W (TwoB fl rs 0 W))
    (hz : (rs.toList == [48]) = false)
    (H4 : ∀ W, Calls Tryz.prog 78 #[.string ⟨#[50]⟩, .string rs] W (StE tw f W))
    (H5 : ∀ W, Calls Tryz.prog 83 #[.string tw] W (DgV V W))
    (H6 : ∀ W, Calls Tryz.prog 83 #[.string d] W (DgV D W))
    (hh : cmpN V D = h)
    (ht : (tw.toList == []) = false)
    (n0 : 0 < n.size)
    (n1 : ((n[0].toNat : Int) == 45) = false) :
    Calls Tryz.prog 46 #[.string s, .int .u8 0] w (StE fl 0 w) := by
  have J1 := Lib.hid H1
  have J2 := Lib.hid H2
  have J3 := Lib.hid H3
  have J4 := Lib.hid H4
  have J5 := Lib.hid H5
  have J6 := Lib.hid H6
  have HH := Lib.hid hh
  clear H1 H2 H3 H4 H5 H6 hh
  go_enter Tryz.func46, Tryz.ntmps46
  go_wp2_with (first
    | (go_at_call 42; (with_reducible refine (J1.out _).mono ?_); rintro e u1 ⟨rfl, b⟩; have D1 := Lib.hid b; clear b)
    | (go_at_call 73; (with_reducible refine (J2.out _).mono ?_); rintro e u2 ⟨rfl, b⟩; have D2 := Lib.hid (bt D1.out b); clear b)
    | (go_at_call 81; (with_reducible refine (J3.out _).mono ?_); rintro e u3 ⟨rfl, b⟩; have D3 := Lib.hid (bt D2.out b); clear b)
    | (go_at_call 78; (with_reducible refine (J4.out _).mono ?_); rintro e u4 ⟨rfl, b⟩; have D4 := Lib.hid (bt D3.out b); clear b)
    | (go_at_call 83; (with_reducible refine (J5.out _).mono ?_); rintro e u5 ⟨A5, c5, xs, rfl, hS5, hd5, hl5, hv5, b⟩; have S5 := Lib.hid hS5; have Q5 := Lib.hid hd5; have V5 := Lib.hid hv5; have D5 := Lib.hid (bt D4.out b); clear b hS5 hd5 hv5)
    | (go_at_call 83; (with_reducible refine (J6.out _).mono ?_); rintro e u6 ⟨A6, c6, ys, rfl, hS6, hd6, hl6, hv6, b⟩; have S6 := Lib.hid hS6; have Q6 := Lib.hid hd6; have V6 := Lib.hid hv6; have S7 := Lib.hid (S5.out.below b); have D6 := Lib.hid (bt D5.out b); clear b hS6 hd6 hv6)
    | (go_at_call 82; refine (greater_of _ _ _ _ _ _ _ S7.out S6.out Q5.out Q6.out hl5 hl6 _ _ V5.out V6.out _ HH.out).mono ?_; rintro e u7 ⟨rfl, rfl⟩))
  go_ret2
  exact ⟨rfl, D6.out⟩
set_option maxRecDepth 100000 in
set_option maxHeartbeats 3200000 in
theorem rr_1_n_o (s n d fl rs tw : ByteArray) (V D : Nat) (f h : Int) (w : World)
    (H1 : ∀ W, Calls Tryz.prog 42 #[.string s] W (IntB 0 W))
    (H2 : ∀ W, Calls Tryz.prog 73 #[.string s] W (TwoW n d W))
    (H3 : ∀ W, Calls Tryz.prog 81 #[.string n, .string d] W (TwoB fl rs 0 W))
    (hz : (rs.toList == [48]) = false)
    (H4 : ∀ W, Calls Tryz.prog 78 #[.string ⟨#[50]⟩, .string rs] W (StE tw f W))
    (H5 : ∀ W, Calls Tryz.prog 83 #[.string tw] W (DgV V W))
    (H6 : ∀ W, Calls Tryz.prog 83 #[.string d] W (DgV D W))
    (hh : cmpN V D = h)
    (ht : (tw.toList == []) = true)
    (n0 : 0 < n.size)
    (n2 : ((n[0].toNat : Int) != 45) = false) :
    Calls Tryz.prog 46 #[.string s, .int .u8 1] w (StE fl 0 w) := by
  have J1 := Lib.hid H1
  have J2 := Lib.hid H2
  have J3 := Lib.hid H3
  have J4 := Lib.hid H4
  have J5 := Lib.hid H5
  have J6 := Lib.hid H6
  have HH := Lib.hid hh
  clear H1 H2 H3 H4 H5 H6 hh
  go_enter Tryz.func46, Tryz.ntmps46
  go_wp2_with (first
    | (go_at_call 42; (with_reducible refine (J1.out _).mono ?_); rintro e u1 ⟨rfl, b⟩; have D1 := Lib.hid b; clear b)
    | (go_at_call 73; (with_reducible refine (J2.out _).mono ?_); rintro e u2 ⟨rfl, b⟩; have D2 := Lib.hid (bt D1.out b); clear b)
    | (go_at_call 81; (with_reducible refine (J3.out _).mono ?_); rintro e u3 ⟨rfl, b⟩; have D3 := Lib.hid (bt D2.out b); clear b)
    | (go_at_call 78; (with_reducible refine (J4.out _).mono ?_); rintro e u4 ⟨rfl, b⟩; have D4 := Lib.hid (bt D3.out b); clear b)
    | (go_at_call 83; (with_reducible refine (J5.out _).mono ?_); rintro e u5 ⟨A5, c5, xs, rfl, hS5, hd5, hl5, hv5, b⟩; have S5 := Lib.hid hS5; have Q5 := Lib.hid hd5; have V5 := Lib.hid hv5; have D5 := Lib.hid (bt D4.out b); clear b hS5 hd5 hv5)
    | (go_at_call 83; (with_reducible refine (J6.out _).mono ?_); rintro e u6 ⟨A6, c6, ys, rfl, hS6, hd6, hl6, hv6, b⟩; have S6 := Lib.hid hS6; have Q6 := Lib.hid hd6; have V6 := Lib.hid hv6; have S7 := Lib.hid (S5.out.below b); have D6 := Lib.hid (bt D5.out b); clear b hS6 hd6 hv6)
    | (go_at_call 82; refine (greater_of _ _ _ _ _ _ _ S7.out S6.out Q5.out Q6.out hl5 hl6 _ _ V5.out V6.out _ HH.out).mono ?_; rintro e u7 ⟨rfl, rfl⟩))
  go_ret2
  exact ⟨rfl, D6.out⟩
set_option maxRecDepth 100000 in
set_option maxHeartbeats 3200000 in
theorem rr_1_n_f (s n d fl rs tw : ByteArray) (V D : Nat) (f h : Int) (w : World)
    (H1 : ∀ W, Calls Tryz.prog 42 #[.string s] W (IntB 0 W))
    (H2 : ∀ W, Calls Tryz.prog 73 #[.string s] W (TwoW n d W))
    (H3 : ∀ W, Calls Tryz.prog 81 #[.string n, .string d] W (TwoB fl rs 0 W))
    (hz : (rs.toList == [48]) = false)
    (H4 : ∀ W, Calls Tryz.prog 78 #[.string ⟨#[50]⟩, .string rs] W (StE tw f W))
    (H5 : ∀ W, Calls Tryz.prog 83 #[.string tw] W (DgV V W))
    (H6 : ∀ W, Calls Tryz.prog 83 #[.string d] W (DgV D W))
    (hh : cmpN V D = h)
    (ht : (tw.toList == []) = false)
    (n0 : 0 < n.size)
    (n2 : ((n[0].toNat : Int) != 45) = false) :
    Calls Tryz.prog 46 #[.string s, .int .u8 1] w (StE fl 0 w) := by
  have J1 := Lib.hid H1
  have J2 := Lib.hid H2
  have J3 := Lib.hid H3
  have J4 := Lib.hid H4
  have J5 := Lib.hid H5
  have J6 := Lib.hid H6
  have HH := Lib.hid hh
  clear H1 H2 H3 H4 H5 H6 hh
  go_enter Tryz.func46, Tryz.ntmps46
  go_wp2_with (first
    | (go_at_call 42; (with_reducible refine (J1.out _).mono ?_); rintro e u1 ⟨rfl, b⟩; have D1 := Lib.hid b; clear b)
    | (go_at_call 73; (with_reducible refine (J2.out _).mono ?_); rintro e u2 ⟨rfl, b⟩; have D2 := Lib.hid (bt D1.out b); clear b)
    | (go_at_call 81; (with_reducible refine (J3.out _).mono ?_); rintro e u3 ⟨rfl, b⟩; have D3 := Lib.hid (bt D2.out b); clear b)
    | (go_at_call 78; (with_reducible refine (J4.out _).mono ?_); rintro e u4 ⟨rfl, b⟩; have D4 := Lib.hid (bt D3.out b); clear b)
    | (go_at_call 83; (with_reducible refine (J5.out _).mono ?_); rintro e u5 ⟨A5, c5, xs, rfl, hS5, hd5, hl5, hv5, b⟩; have S5 := Lib.hid hS5; have Q5 := Lib.hid hd5; have V5 := Lib.hid hv5; have D5 := Lib.hid (bt D4.out b); clear b hS5 hd5 hv5)
    | (go_at_call 83; (with_reducible refine (J6.out _).mono ?_); rintro e u6 ⟨A6, c6, ys, rfl, hS6, hd6, hl6, hv6, b⟩; have S6 := Lib.hid hS6; have Q6 := Lib.hid hd6; have V6 := Lib.hid hv6; have S7 := Lib.hid (S5.out.below b); have D6 := Lib.hid (bt D5.out b); clear b hS6 hd6 hv6)
    | (go_at_call 82; refine (greater_of _ _ _ _ _ _ _ S7.out S6.out Q5.out Q6.out hl5 hl6 _ _ V5.out V6.out _ HH.out).mono ?_; rintro e u7 ⟨rfl, rfl⟩))
  go_ret2
  exact ⟨rfl, D6.out⟩
set_option maxRecDepth 100000 in
set_option maxHeartbeats 3200000 in
theorem rr_1_p_o (s n d fl rs tw up : ByteArray) (V D : Nat) (f h : Int) (w : World)
    (H1 : ∀ W, Calls Tryz.prog 42 #[.string s] W (IntB 0 W))
    (H2 : ∀ W, Calls Tryz.prog 73 #[.string s] W (TwoW n d W))
    (H3 : ∀ W, Calls Tryz.prog 81 #[.string n, .string d] W (TwoB fl rs 0 W))
    (hz : (rs.toList == [48]) = false)
    (H4 : ∀ W, Calls Tryz.prog 78 #[.string ⟨#[50]⟩, .string rs] W (StE tw f W))
    (H5 : ∀ W, Calls Tryz.prog 83 #[.string tw] W (DgV V W))
    (H6 : ∀ W, Calls Tryz.prog 83 #[.string d] W (DgV D W))
    (hh : cmpN V D = h)
    (ht : (tw.toList == []) = true)
    (H7 : ∀ W, Calls Tryz.prog 84 #[.string fl, .string ⟨#[49]⟩] W (StE up 0 W))
    (n0 : 0 < n.size)
    (n2 : ((n[0].toNat : Int) != 45) = true) :
    Calls Tryz.prog 46 #[.string s, .int .u8 1] w (StE up 0 w) := by
  have J1 := Lib.hid H1
  have J2 := Lib.hid H2
  have J3 := Lib.hid H3
  have J4 := Lib.hid H4
  have J5 := Lib.hid H5
  have J6 := Lib.hid H6
  have HH := Lib.hid hh
  have J7 := Lib.hid H7
  clear H1 H2 H3 H4 H5 H6 hh H7
  go_enter Tryz.func46, Tryz.ntmps46
  go_wp2_with (first
    | (go_at_call 42; (with_reducible refine (J1.out _).mono ?_); rintro e u1 ⟨rfl, b⟩; have D1 := Lib.hid b; clear b)
    | (go_at_call 73; (with_reducible refine (J2.out _).mono ?_); rintro e u2 ⟨rfl, b⟩; have D2 := Lib.hid (bt D1.out b); clear b)
    | (go_at_call 81; (with_reducible refine (J3.out _).mono ?_); rintro e u3 ⟨rfl, b⟩; have D3 := Lib.hid (bt D2.out b); clear b)
    | (go_at_call 78; (with_reducible refine (J4.out _).mono ?_); rintro e u4 ⟨rfl, b⟩; have D4 := Lib.hid (bt D3.out b); clear b)
    | (go_at_call 83; (with_reducible refine (J5.out _).mono ?_); rintro e u5 ⟨A5, c5, xs, rfl, hS5, hd5, hl5, hv5, b⟩; have S5 := Lib.hid hS5; have Q5 := Lib.hid hd5; have V5 := Lib.hid hv5; have D5 := Lib.hid (bt D4.out b); clear b hS5 hd5 hv5)
    | (go_at_call 83; (with_reducible refine (J6.out _).mono ?_); rintro e u6 ⟨A6, c6, ys, rfl, hS6, hd6, hl6, hv6, b⟩; have S6 := Lib.hid hS6; have Q6 := Lib.hid hd6; have V6 := Lib.hid hv6; have S7 := Lib.hid (S5.out.below b); have D6 := Lib.hid (bt D5.out b); clear b hS6 hd6 hv6)
    | (go_at_call 82; refine (greater_of _ _ _ _ _ _ _ S7.out S6.out Q5.out Q6.out hl5 hl6 _ _ V5.out V6.out _ HH.out).mono ?_; rintro e u7 ⟨rfl, rfl⟩)
    | (go_at_call 84; (with_reducible refine (J7.out _).mono ?_); rintro e u9 ⟨rfl, b⟩; have D9 := Lib.hid (bt D6.out b); clear b))
  go_ret2
  exact ⟨rfl, D9.out⟩
set_option maxRecDepth 100000 in
set_option maxHeartbeats 3200000 in
theorem rr_1_p_f (s n d fl rs tw up : ByteArray) (V D : Nat) (f h : Int) (w : World)
    (H1 : ∀ W, Calls Tryz.prog 42 #[.string s] W (IntB 0 W))
    (H2 : ∀ W, Calls Tryz.prog 73 #[.string s] W (TwoW n d W))
    (H3 : ∀ W, Calls Tryz.prog 81 #[.string n, .string d] W (TwoB fl rs 0 W))
    (hz : (rs.toList == [48]) = false)
    (H4 : ∀ W, Calls Tryz.prog 78 #[.string ⟨#[50]⟩, .string rs] W (StE tw f W))
    (H5 : ∀ W, Calls Tryz.prog 83 #[.string tw] W (DgV V W))
    (H6 : ∀ W, Calls Tryz.prog 83 #[.string d] W (DgV D W))
    (hh : cmpN V D = h)
    (ht : (tw.toList == []) = false)
    (H7 : ∀ W, Calls Tryz.prog 84 #[.string fl, .string ⟨#[49]⟩] W (StE up 0 W))
    (n0 : 0 < n.size)
    (n2 : ((n[0].toNat : Int) != 45) = true) :
    Calls Tryz.prog 46 #[.string s, .int .u8 1] w (StE up 0 w) := by
  have J1 := Lib.hid H1
  have J2 := Lib.hid H2
  have J3 := Lib.hid H3
  have J4 := Lib.hid H4
  have J5 := Lib.hid H5
  have J6 := Lib.hid H6
  have HH := Lib.hid hh
  have J7 := Lib.hid H7
  clear H1 H2 H3 H4 H5 H6 hh H7
  go_enter Tryz.func46, Tryz.ntmps46
  go_wp2_with (first
    | (go_at_call 42; (with_reducible refine (J1.out _).mono ?_); rintro e u1 ⟨rfl, b⟩; have D1 := Lib.hid b; clear b)
    | (go_at_call 73; (with_reducible refine (J2.out _).mono ?_); rintro e u2 ⟨rfl, b⟩; have D2 := Lib.hid (bt D1.out b); clear b)
    | (go_at_call 81; (with_reducible refine (J3.out _).mono ?_); rintro e u3 ⟨rfl, b⟩; have D3 := Lib.hid (bt D2.out b); clear b)
    | (go_at_call 78; (with_reducible refine (J4.out _).mono ?_); rintro e u4 ⟨rfl, b⟩; have D4 := Lib.hid (bt D3.out b); clear b)
    | (go_at_call 83; (with_reducible refine (J5.out _).mono ?_); rintro e u5 ⟨A5, c5, xs, rfl, hS5, hd5, hl5, hv5, b⟩; have S5 := Lib.hid hS5; have Q5 := Lib.hid hd5; have V5 := Lib.hid hv5; have D5 := Lib.hid (bt D4.out b); clear b hS5 hd5 hv5)
    | (go_at_call 83; (with_reducible refine (J6.out _).mono ?_); rintro e u6 ⟨A6, c6, ys, rfl, hS6, hd6, hl6, hv6, b⟩; have S6 := Lib.hid hS6; have Q6 := Lib.hid hd6; have V6 := Lib.hid hv6; have S7 := Lib.hid (S5.out.below b); have D6 := Lib.hid (bt D5.out b); clear b hS6 hd6 hv6)
    | (go_at_call 82; refine (greater_of _ _ _ _ _ _ _ S7.out S6.out Q5.out Q6.out hl5 hl6 _ _ V5.out V6.out _ HH.out).mono ?_; rintro e u7 ⟨rfl, rfl⟩)
    | (go_at_call 84; (with_reducible refine (J7.out _).mono ?_); rintro e u9 ⟨rfl, b⟩; have D9 := Lib.hid (bt D6.out b); clear b))
  go_ret2
  exact ⟨rfl, D9.out⟩
set_option maxRecDepth 100000 in
set_option maxHeartbeats 3200000 in
theorem rr_2_o (s n d fl rs tw up : ByteArray) (V D : Nat) (f h : Int) (w : World)
    (H1 : ∀ W, Calls Tryz.prog 42 #[.string s] W (IntB 0 W))
    (H2 : ∀ W, Calls Tryz.prog 73 #[.string s] W (TwoW n d W))
    (H3 : ∀ W, Calls Tryz.prog 81 #[.string n, .string d] W (TwoB fl rs 0 W))
    (hz : (rs.toList == [48]) = false)
    (H4 : ∀ W, Calls Tryz.prog 78 #[.string ⟨#[50]⟩, .string rs] W (StE tw f W))
    (H5 : ∀ W, Calls Tryz.prog 83 #[.string tw] W (DgV V W))
    (H6 : ∀ W, Calls Tryz.prog 83 #[.string d] W (DgV D W))
    (hh : cmpN V D = h)
    (ht : (tw.toList == []) = true)
    (H7 : ∀ W, Calls Tryz.prog 84 #[.string fl, .string ⟨#[49]⟩] W (StE up 0 W)) :
    Calls Tryz.prog 46 #[.string s, .int .u8 2] w (StE up 0 w) := by
  have J1 := Lib.hid H1
  have J2 := Lib.hid H2
  have J3 := Lib.hid H3
  have J4 := Lib.hid H4
  have J5 := Lib.hid H5
  have J6 := Lib.hid H6
  have HH := Lib.hid hh
  have J7 := Lib.hid H7
  clear H1 H2 H3 H4 H5 H6 hh H7
  go_enter Tryz.func46, Tryz.ntmps46
  go_wp2_with (first
    | (go_at_call 42; (with_reducible refine (J1.out _).mono ?_); rintro e u1 ⟨rfl, b⟩; have D1 := Lib.hid b; clear b)
    | (go_at_call 73; (with_reducible refine (J2.out _).mono ?_); rintro e u2 ⟨rfl, b⟩; have D2 := Lib.hid (bt D1.out b); clear b)
    | (go_at_call 81; (with_reducible refine (J3.out _).mono ?_); rintro e u3 ⟨rfl, b⟩; have D3 := Lib.hid (bt D2.out b); clear b)
    | (go_at_call 78; (with_reducible refine (J4.out _).mono ?_); rintro e u4 ⟨rfl, b⟩; have D4 := Lib.hid (bt D3.out b); clear b)
    | (go_at_call 83; (with_reducible refine (J5.out _).mono ?_); rintro e u5 ⟨A5, c5, xs, rfl, hS5, hd5, hl5, hv5, b⟩; have S5 := Lib.hid hS5; have Q5 := Lib.hid hd5; have V5 := Lib.hid hv5; have D5 := Lib.hid (bt D4.out b); clear b hS5 hd5 hv5)
    | (go_at_call 83; (with_reducible refine (J6.out _).mono ?_); rintro e u6 ⟨A6, c6, ys, rfl, hS6, hd6, hl6, hv6, b⟩; have S6 := Lib.hid hS6; have Q6 := Lib.hid hd6; have V6 := Lib.hid hv6; have S7 := Lib.hid (S5.out.below b); have D6 := Lib.hid (bt D5.out b); clear b hS6 hd6 hv6)
    | (go_at_call 82; refine (greater_of _ _ _ _ _ _ _ S7.out S6.out Q5.out Q6.out hl5 hl6 _ _ V5.out V6.out _ HH.out).mono ?_; rintro e u7 ⟨rfl, rfl⟩)
    | (go_at_call 84; (with_reducible refine (J7.out _).mono ?_); rintro e u9 ⟨rfl, b⟩; have D9 := Lib.hid (bt D6.out b); clear b))
  go_ret2
  exact ⟨rfl, D9.out⟩
set_option maxRecDepth 100000 in
set_option maxHeartbeats 3200000 in
theorem rr_2_m (s n d fl rs tw : ByteArray) (V D : Nat) (f : Int) (w : World)
    (H1 : ∀ W, Calls Tryz.prog 42 #[.string s] W (IntB 0 W))
    (H2 : ∀ W, Calls Tryz.prog 73 #[.string s] W (TwoW n d W))
    (H3 : ∀ W, Calls Tryz.prog 81 #[.string n, .string d] W (TwoB fl rs 0 W))
    (hz : (rs.toList == [48]) = false)
    (H4 : ∀ W, Calls Tryz.prog 78 #[.string ⟨#[50]⟩, .string rs] W (StE tw f W))
    (H5 : ∀ W, Calls Tryz.prog 83 #[.string tw] W (DgV V W))
    (H6 : ∀ W, Calls Tryz.prog 83 #[.string d] W (DgV D W))
    (hh : cmpN V D = -1)
    (ht : (tw.toList == []) = false) :
    Calls Tryz.prog 46 #[.string s, .int .u8 2] w (StE fl 0 w) := by
  have J1 := Lib.hid H1
  have J2 := Lib.hid H2
  have J3 := Lib.hid H3
  have J4 := Lib.hid H4
  have J5 := Lib.hid H5
  have J6 := Lib.hid H6
  have HH := Lib.hid hh
  clear H1 H2 H3 H4 H5 H6 hh
  go_enter Tryz.func46, Tryz.ntmps46
  go_wp2_with (first
    | (go_at_call 42; (with_reducible refine (J1.out _).mono ?_); rintro e u1 ⟨rfl, b⟩; have D1 := Lib.hid b; clear b)
    | (go_at_call 73; (with_reducible refine (J2.out _).mono ?_); rintro e u2 ⟨rfl, b⟩; have D2 := Lib.hid (bt D1.out b); clear b)
    | (go_at_call 81; (with_reducible refine (J3.out _).mono ?_); rintro e u3 ⟨rfl, b⟩; have D3 := Lib.hid (bt D2.out b); clear b)
    | (go_at_call 78; (with_reducible refine (J4.out _).mono ?_); rintro e u4 ⟨rfl, b⟩; have D4 := Lib.hid (bt D3.out b); clear b)
    | (go_at_call 83; (with_reducible refine (J5.out _).mono ?_); rintro e u5 ⟨A5, c5, xs, rfl, hS5, hd5, hl5, hv5, b⟩; have S5 := Lib.hid hS5; have Q5 := Lib.hid hd5; have V5 := Lib.hid hv5; have D5 := Lib.hid (bt D4.out b); clear b hS5 hd5 hv5)
    | (go_at_call 83; (with_reducible refine (J6.out _).mono ?_); rintro e u6 ⟨A6, c6, ys, rfl, hS6, hd6, hl6, hv6, b⟩; have S6 := Lib.hid hS6; have Q6 := Lib.hid hd6; have V6 := Lib.hid hv6; have S7 := Lib.hid (S5.out.below b); have D6 := Lib.hid (bt D5.out b); clear b hS6 hd6 hv6)
    | (go_at_call 82; refine (greater_of _ _ _ _ _ _ _ S7.out S6.out Q5.out Q6.out hl5 hl6 _ _ V5.out V6.out _ HH.out).mono ?_; rintro e u7 ⟨rfl, rfl⟩))
  go_ret2
  exact ⟨rfl, D6.out⟩
set_option maxRecDepth 100000 in
set_option maxHeartbeats 3200000 in
theorem rr_2_u (s n d fl rs tw up : ByteArray) (V D : Nat) (f : Int) (w : World)
    (H1 : ∀ W, Calls Tryz.prog 42 #[.string s] W (IntB 0 W))
    (H2 : ∀ W, Calls Tryz.prog 73 #[.string s] W (TwoW n d W))
    (H3 : ∀ W, Calls Tryz.prog 81 #[.string n, .string d] W (TwoB fl rs 0 W))
    (hz : (rs.toList == [48]) = false)
    (H4 : ∀ W, Calls Tryz.prog 78 #[.string ⟨#[50]⟩, .string rs] W (StE tw f W))
    (H5 : ∀ W, Calls Tryz.prog 83 #[.string tw] W (DgV V W))
    (H6 : ∀ W, Calls Tryz.prog 83 #[.string d] W (DgV D W))
    (hh : cmpN V D = 1)
    (ht : (tw.toList == []) = false)
    (H7 : ∀ W, Calls Tryz.prog 84 #[.string fl, .string ⟨#[49]⟩] W (StE up 0 W)) :
    Calls Tryz.prog 46 #[.string s, .int .u8 2] w (StE up 0 w) := by
  have J1 := Lib.hid H1
  have J2 := Lib.hid H2
  have J3 := Lib.hid H3
  have J4 := Lib.hid H4
  have J5 := Lib.hid H5
  have J6 := Lib.hid H6
  have HH := Lib.hid hh
  have J7 := Lib.hid H7
  clear H1 H2 H3 H4 H5 H6 hh H7
  go_enter Tryz.func46, Tryz.ntmps46
  go_wp2_with (first
    | (go_at_call 42; (with_reducible refine (J1.out _).mono ?_); rintro e u1 ⟨rfl, b⟩; have D1 := Lib.hid b; clear b)
    | (go_at_call 73; (with_reducible refine (J2.out _).mono ?_); rintro e u2 ⟨rfl, b⟩; have D2 := Lib.hid (bt D1.out b); clear b)
    | (go_at_call 81; (with_reducible refine (J3.out _).mono ?_); rintro e u3 ⟨rfl, b⟩; have D3 := Lib.hid (bt D2.out b); clear b)
    | (go_at_call 78; (with_reducible refine (J4.out _).mono ?_); rintro e u4 ⟨rfl, b⟩; have D4 := Lib.hid (bt D3.out b); clear b)
    | (go_at_call 83; (with_reducible refine (J5.out _).mono ?_); rintro e u5 ⟨A5, c5, xs, rfl, hS5, hd5, hl5, hv5, b⟩; have S5 := Lib.hid hS5; have Q5 := Lib.hid hd5; have V5 := Lib.hid hv5; have D5 := Lib.hid (bt D4.out b); clear b hS5 hd5 hv5)
    | (go_at_call 83; (with_reducible refine (J6.out _).mono ?_); rintro e u6 ⟨A6, c6, ys, rfl, hS6, hd6, hl6, hv6, b⟩; have S6 := Lib.hid hS6; have Q6 := Lib.hid hd6; have V6 := Lib.hid hv6; have S7 := Lib.hid (S5.out.below b); have D6 := Lib.hid (bt D5.out b); clear b hS6 hd6 hv6)
    | (go_at_call 82; refine (greater_of _ _ _ _ _ _ _ S7.out S6.out Q5.out Q6.out hl5 hl6 _ _ V5.out V6.out _ HH.out).mono ?_; rintro e u7 ⟨rfl, rfl⟩)
    | (go_at_call 84; (with_reducible refine (J7.out _).mono ?_); rintro e u9 ⟨rfl, b⟩; have D9 := Lib.hid (bt D6.out b); clear b))
  go_ret2
  exact ⟨rfl, D9.out⟩
set_option maxRecDepth 100000 in
set_option maxHeartbeats 3200000 in
theorem rr_2_n (s n d fl rs tw : ByteArray) (V D : Nat) (f : Int) (w : World)
    (H1 : ∀ W, Calls Tryz.prog 42 #[.string s] W (IntB 0 W))
    (H2 : ∀ W, Calls Tryz.prog 73 #[.string s] W (TwoW n d W))
    (H3 : ∀ W, Calls Tryz.prog 81 #[.string n, .string d] W (TwoB fl rs 0 W))
    (hz : (rs.toList == [48]) = false)
    (H4 : ∀ W, Calls Tryz.prog 78 #[.string ⟨#[50]⟩, .string rs] W (StE tw f W))
    (H5 : ∀ W, Calls Tryz.prog 83 #[.string tw] W (DgV V W))
    (H6 : ∀ W, Calls Tryz.prog 83 #[.string d] W (DgV D W))
    (hh : cmpN V D = 0)
    (ht : (tw.toList == []) = false)
    (n0 : 0 < n.size)
    (n2 : ((n[0].toNat : Int) != 45) = false) :
    Calls Tryz.prog 46 #[.string s, .int .u8 2] w (StE fl 0 w) := by
  have J1 := Lib.hid H1
  have J2 := Lib.hid H2
  have J3 := Lib.hid H3
  have J4 := Lib.hid H4
  have J5 := Lib.hid H5
  have J6 := Lib.hid H6
  have HH := Lib.hid hh
  clear H1 H2 H3 H4 H5 H6 hh
  go_enter Tryz.func46, Tryz.ntmps46
  go_wp2_with (first
    | (go_at_call 42; (with_reducible refine (J1.out _).mono ?_); rintro e u1 ⟨rfl, b⟩; have D1 := Lib.hid b; clear b)
    | (go_at_call 73; (with_reducible refine (J2.out _).mono ?_); rintro e u2 ⟨rfl, b⟩; have D2 := Lib.hid (bt D1.out b); clear b)
    | (go_at_call 81; (with_reducible refine (J3.out _).mono ?_); rintro e u3 ⟨rfl, b⟩; have D3 := Lib.hid (bt D2.out b); clear b)
    | (go_at_call 78; (with_reducible refine (J4.out _).mono ?_); rintro e u4 ⟨rfl, b⟩; have D4 := Lib.hid (bt D3.out b); clear b)
    | (go_at_call 83; (with_reducible refine (J5.out _).mono ?_); rintro e u5 ⟨A5, c5, xs, rfl, hS5, hd5, hl5, hv5, b⟩; have S5 := Lib.hid hS5; have Q5 := Lib.hid hd5; have V5 := Lib.hid hv5; have D5 := Lib.hid (bt D4.out b); clear b hS5 hd5 hv5)
    | (go_at_call 83; (with_reducible refine (J6.out _).mono ?_); rintro e u6 ⟨A6, c6, ys, rfl, hS6, hd6, hl6, hv6, b⟩; have S6 := Lib.hid hS6; have Q6 := Lib.hid hd6; have V6 := Lib.hid hv6; have S7 := Lib.hid (S5.out.below b); have D6 := Lib.hid (bt D5.out b); clear b hS6 hd6 hv6)
    | (go_at_call 82; refine (greater_of _ _ _ _ _ _ _ S7.out S6.out Q5.out Q6.out hl5 hl6 _ _ V5.out V6.out _ HH.out).mono ?_; rintro e u7 ⟨rfl, rfl⟩))
  go_ret2
  exact ⟨rfl, D6.out⟩
set_option maxRecDepth 100000 in
set_option maxHeartbeats 3200000 in
theorem rr_2_p (s n d fl rs tw up : ByteArray) (V D : Nat) (f : Int) (w : World)
    (H1 : ∀ W, Calls Tryz.prog 42 #[.string s] W (IntB 0 W))
    (H2 : ∀ W, Calls Tryz.prog 73 #[.string s] W (TwoW n d W))
    (H3 : ∀ W, Calls Tryz.prog 81 #[.string n, .string d] W (TwoB fl rs 0 W))
    (hz : (rs.toList == [48]) = false)
    (H4 : ∀ W, Calls Tryz.prog 78 #[.string ⟨#[50]⟩, .string rs] W (StE tw f W))
    (H5 : ∀ W, Calls Tryz.prog 83 #[.string tw] W (DgV V W))
    (H6 : ∀ W, Calls Tryz.prog 83 #[.string d] W (DgV D W))
    (hh : cmpN V D = 0)
    (ht : (tw.toList == []) = false)
    (H7 : ∀ W, Calls Tryz.prog 84 #[.string fl, .string ⟨#[49]⟩] W (StE up 0 W))
    (n0 : 0 < n.size)
    (n2 : ((n[0].toNat : Int) != 45) = true) :
    Calls Tryz.prog 46 #[.string s, .int .u8 2] w (StE up 0 w) := by
  have J1 := Lib.hid H1
  have J2 := Lib.hid H2
  have J3 := Lib.hid H3
  have J4 := Lib.hid H4
  have J5 := Lib.hid H5
  have J6 := Lib.hid H6
  have HH := Lib.hid hh
  have J7 := Lib.hid H7
  clear H1 H2 H3 H4 H5 H6 hh H7
  go_enter Tryz.func46, Tryz.ntmps46
  go_wp2_with (first
    | (go_at_call 42; (with_reducible refine (J1.out _).mono ?_); rintro e u1 ⟨rfl, b⟩; have D1 := Lib.hid b; clear b)
    | (go_at_call 73; (with_reducible refine (J2.out _).mono ?_); rintro e u2 ⟨rfl, b⟩; have D2 := Lib.hid (bt D1.out b); clear b)
    | (go_at_call 81; (with_reducible refine (J3.out _).mono ?_); rintro e u3 ⟨rfl, b⟩; have D3 := Lib.hid (bt D2.out b); clear b)
    | (go_at_call 78; (with_reducible refine (J4.out _).mono ?_); rintro e u4 ⟨rfl, b⟩; have D4 := Lib.hid (bt D3.out b); clear b)
    | (go_at_call 83; (with_reducible refine (J5.out _).mono ?_); rintro e u5 ⟨A5, c5, xs, rfl, hS5, hd5, hl5, hv5, b⟩; have S5 := Lib.hid hS5; have Q5 := Lib.hid hd5; have V5 := Lib.hid hv5; have D5 := Lib.hid (bt D4.out b); clear b hS5 hd5 hv5)
    | (go_at_call 83; (with_reducible refine (J6.out _).mono ?_); rintro e u6 ⟨A6, c6, ys, rfl, hS6, hd6, hl6, hv6, b⟩; have S6 := Lib.hid hS6; have Q6 := Lib.hid hd6; have V6 := Lib.hid hv6; have S7 := Lib.hid (S5.out.below b); have D6 := Lib.hid (bt D5.out b); clear b hS6 hd6 hv6)
    | (go_at_call 82; refine (greater_of _ _ _ _ _ _ _ S7.out S6.out Q5.out Q6.out hl5 hl6 _ _ V5.out V6.out _ HH.out).mono ?_; rintro e u7 ⟨rfl, rfl⟩)
    | (go_at_call 84; (with_reducible refine (J7.out _).mono ?_); rintro e u9 ⟨rfl, b⟩; have D9 := Lib.hid (bt D6.out b); clear b))
  go_ret2
  exact ⟨rfl, D9.out⟩
set_option maxRecDepth 100000 in
set_option maxHeartbeats 3200000 in
theorem rr_3_o (s n d fl rs tw up : ByteArray) (V D : Nat) (f h : Int) (w : World)
    (H1 : ∀ W, Calls Tryz.prog 42 #[.string s] W (IntB 0 W))
    (H2 : ∀ W, Calls Tryz.prog 73 #[.string s] W (TwoW n d W))
    (H3 : ∀ W, Calls Tryz.prog 81 #[.string n, .string d] W (TwoB fl rs 0 W))
    (hz : (rs.toList == [48]) = false)
    (H4 : ∀ W, Calls Tryz.prog 78 #[.string ⟨#[50]⟩, .string rs] W (StE tw f W))
    (H5 : ∀ W, Calls Tryz.prog 83 #[.string tw] W (DgV V W))
    (H6 : ∀ W, Calls Tryz.prog 83 #[.string d] W (DgV D W))
    (hh : cmpN V D = h)
    (ht : (tw.toList == []) = true)
    (H7 : ∀ W, Calls Tryz.prog 84 #[.string fl, .string ⟨#[49]⟩] W (StE up 0 W)) :
    Calls Tryz.prog 46 #[.string s, .int .u8 3] w (StE up 0 w) := by
  have J1 := Lib.hid H1
  have J2 := Lib.hid H2
  have J3 := Lib.hid H3
  have J4 := Lib.hid H4
  have J5 := Lib.hid H5
  have J6 := Lib.hid H6
  have HH := Lib.hid hh
  have J7 := Lib.hid H7
  clear H1 H2 H3 H4 H5 H6 hh H7
  go_enter Tryz.func46, Tryz.ntmps46
  go_wp2_with (first
    | (go_at_call 42; (with_reducible refine (J1.out _).mono ?_); rintro e u1 ⟨rfl, b⟩; have D1 := Lib.hid b; clear b)
    | (go_at_call 73; (with_reducible refine (J2.out _).mono ?_); rintro e u2 ⟨rfl, b⟩; have D2 := Lib.hid (bt D1.out b); clear b)
    | (go_at_call 81; (with_reducible refine (J3.out _).mono ?_); rintro e u3 ⟨rfl, b⟩; have D3 := Lib.hid (bt D2.out b); clear b)
    | (go_at_call 78; (with_reducible refine (J4.out _).mono ?_); rintro e u4 ⟨rfl, b⟩; have D4 := Lib.hid (bt D3.out b); clear b)
    | (go_at_call 83; (with_reducible refine (J5.out _).mono ?_); rintro e u5 ⟨A5, c5, xs, rfl, hS5, hd5, hl5, hv5, b⟩; have S5 := Lib.hid hS5; have Q5 := Lib.hid hd5; have V5 := Lib.hid hv5; have D5 := Lib.hid (bt D4.out b); clear b hS5 hd5 hv5)
    | (go_at_call 83; (with_reducible refine (J6.out _).mono ?_); rintro e u6 ⟨A6, c6, ys, rfl, hS6, hd6, hl6, hv6, b⟩; have S6 := Lib.hid hS6; have Q6 := Lib.hid hd6; have V6 := Lib.hid hv6; have S7 := Lib.hid (S5.out.below b); have D6 := Lib.hid (bt D5.out b); clear b hS6 hd6 hv6)
    | (go_at_call 82; refine (greater_of _ _ _ _ _ _ _ S7.out S6.out Q5.out Q6.out hl5 hl6 _ _ V5.out V6.out _ HH.out).mono ?_; rintro e u7 ⟨rfl, rfl⟩)
    | (go_at_call 84; (with_reducible refine (J7.out _).mono ?_); rintro e u9 ⟨rfl, b⟩; have D9 := Lib.hid (bt D6.out b); clear b))
  go_ret2
  exact ⟨rfl, D9.out⟩
set_option maxRecDepth 100000 in
set_option maxHeartbeats 3200000 in
theorem rr_3_m (s n d fl rs tw : ByteArray) (V D : Nat) (f : Int) (w : World)
    (H1 : ∀ W, Calls Tryz.prog 42 #[.string s] W (IntB 0 W))
    (H2 : ∀ W, Calls Tryz.prog 73 #[.string s] W (TwoW n d W))
    (H3 : ∀ W, Calls Tryz.prog 81 #[.string n, .string d] W (TwoB fl rs 0 W))
    (hz : (rs.toList == [48]) = false)
    (H4 : ∀ W, Calls Tryz.prog 78 #[.string ⟨#[50]⟩, .string rs] W (StE tw f W))
    (H5 : ∀ W, Calls Tryz.prog 83 #[.string tw] W (DgV V W))
    (H6 : ∀ W, Calls Tryz.prog 83 #[.string d] W (DgV D W))
    (hh : cmpN V D = -1)
    (ht : (tw.toList == []) = false) :
    Calls Tryz.prog 46 #[.string s, .int .u8 3] w (StE fl 0 w) := by
  have J1 := Lib.hid H1
  have J2 := Lib.hid H2
  have J3 := Lib.hid H3
  have J4 := Lib.hid H4
  have J5 := Lib.hid H5
  have J6 := Lib.hid H6
  have HH := Lib.hid hh
  clear H1 H2 H3 H4 H5 H6 hh
  go_enter Tryz.func46, Tryz.ntmps46
  go_wp2_with (first
    | (go_at_call 42; (with_reducible refine (J1.out _).mono ?_); rintro e u1 ⟨rfl, b⟩; have D1 := Lib.hid b; clear b)
    | (go_at_call 73; (with_reducible refine (J2.out _).mono ?_); rintro e u2 ⟨rfl, b⟩; have D2 := Lib.hid (bt D1.out b); clear b)
    | (go_at_call 81; (with_reducible refine (J3.out _).mono ?_); rintro e u3 ⟨rfl, b⟩; have D3 := Lib.hid (bt D2.out b); clear b)
    | (go_at_call 78; (with_reducible refine (J4.out _).mono ?_); rintro e u4 ⟨rfl, b⟩; have D4 := Lib.hid (bt D3.out b); clear b)
    | (go_at_call 83; (with_reducible refine (J5.out _).mono ?_); rintro e u5 ⟨A5, c5, xs, rfl, hS5, hd5, hl5, hv5, b⟩; have S5 := Lib.hid hS5; have Q5 := Lib.hid hd5; have V5 := Lib.hid hv5; have D5 := Lib.hid (bt D4.out b); clear b hS5 hd5 hv5)
    | (go_at_call 83; (with_reducible refine (J6.out _).mono ?_); rintro e u6 ⟨A6, c6, ys, rfl, hS6, hd6, hl6, hv6, b⟩; have S6 := Lib.hid hS6; have Q6 := Lib.hid hd6; have V6 := Lib.hid hv6; have S7 := Lib.hid (S5.out.below b); have D6 := Lib.hid (bt D5.out b); clear b hS6 hd6 hv6)
    | (go_at_call 82; refine (greater_of _ _ _ _ _ _ _ S7.out S6.out Q5.out Q6.out hl5 hl6 _ _ V5.out V6.out _ HH.out).mono ?_; rintro e u7 ⟨rfl, rfl⟩))
  go_ret2
  exact ⟨rfl, D6.out⟩
set_option maxRecDepth 100000 in
set_option maxHeartbeats 3200000 in
theorem rr_3_u (s n d fl rs tw up : ByteArray) (V D : Nat) (f : Int) (w : World)
    (H1 : ∀ W, Calls Tryz.prog 42 #[.string s] W (IntB 0 W))
    (H2 : ∀ W, Calls Tryz.prog 73 #[.string s] W (TwoW n d W))
    (H3 : ∀ W, Calls Tryz.prog 81 #[.string n, .string d] W (TwoB fl rs 0 W))
    (hz : (rs.toList == [48]) = false)
    (H4 : ∀ W, Calls Tryz.prog 78 #[.string ⟨#[50]⟩, .string rs] W (StE tw f W))
    (H5 : ∀ W, Calls Tryz.prog 83 #[.string tw] W (DgV V W))
    (H6 : ∀ W, Calls Tryz.prog 83 #[.string d] W (DgV D W))
    (hh : cmpN V D = 1)
    (ht : (tw.toList == []) = false)
    (H7 : ∀ W, Calls Tryz.prog 84 #[.string fl, .string ⟨#[49]⟩] W (StE up 0 W)) :
    Calls Tryz.prog 46 #[.string s, .int .u8 3] w (StE up 0 w) := by
  have J1 := Lib.hid H1
  have J2 := Lib.hid H2
  have J3 := Lib.hid H3
  have J4 := Lib.hid H4
  have J5 := Lib.hid H5
  have J6 := Lib.hid H6
  have HH := Lib.hid hh
  have J7 := Lib.hid H7
  clear H1 H2 H3 H4 H5 H6 hh H7
  go_enter Tryz.func46, Tryz.ntmps46
  go_wp2_with (first
    | (go_at_call 42; (with_reducible refine (J1.out _).mono ?_); rintro e u1 ⟨rfl, b⟩; have D1 := Lib.hid b; clear b)
    | (go_at_call 73; (with_reducible refine (J2.out _).mono ?_); rintro e u2 ⟨rfl, b⟩; have D2 := Lib.hid (bt D1.out b); clear b)
    | (go_at_call 81; (with_reducible refine (J3.out _).mono ?_); rintro e u3 ⟨rfl, b⟩; have D3 := Lib.hid (bt D2.out b); clear b)
    | (go_at_call 78; (with_reducible refine (J4.out _).mono ?_); rintro e u4 ⟨rfl, b⟩; have D4 := Lib.hid (bt D3.out b); clear b)
    | (go_at_call 83; (with_reducible refine (J5.out _).mono ?_); rintro e u5 ⟨A5, c5, xs, rfl, hS5, hd5, hl5, hv5, b⟩; have S5 := Lib.hid hS5; have Q5 := Lib.hid hd5; have V5 := Lib.hid hv5; have D5 := Lib.hid (bt D4.out b); clear b hS5 hd5 hv5)
    | (go_at_call 83; (with_reducible refine (J6.out _).mono ?_); rintro e u6 ⟨A6, c6, ys, rfl, hS6, hd6, hl6, hv6, b⟩; have S6 := Lib.hid hS6; have Q6 := Lib.hid hd6; have V6 := Lib.hid hv6; have S7 := Lib.hid (S5.out.below b); have D6 := Lib.hid (bt D5.out b); clear b hS6 hd6 hv6)
    | (go_at_call 82; refine (greater_of _ _ _ _ _ _ _ S7.out S6.out Q5.out Q6.out hl5 hl6 _ _ V5.out V6.out _ HH.out).mono ?_; rintro e u7 ⟨rfl, rfl⟩)
    | (go_at_call 84; (with_reducible refine (J7.out _).mono ?_); rintro e u9 ⟨rfl, b⟩; have D9 := Lib.hid (bt D6.out b); clear b))
  go_ret2
  exact ⟨rfl, D9.out⟩
set_option maxRecDepth 100000 in
set_option maxHeartbeats 3200000 in
theorem rr_3_t (s n d fl rs tw up : ByteArray) (V D : Nat) (f : Int) (w : World)
    (H1 : ∀ W, Calls Tryz.prog 42 #[.string s] W (IntB 0 W))
    (H2 : ∀ W, Calls Tryz.prog 73 #[.string s] W (TwoW n d W))
    (H3 : ∀ W, Calls Tryz.prog 81 #[.string n, .string d] W (TwoB fl rs 0 W))
    (hz : (rs.toList == [48]) = false)
    (H4 : ∀ W, Calls Tryz.prog 78 #[.string ⟨#[50]⟩, .string rs] W (StE tw f W))
    (H5 : ∀ W, Calls Tryz.prog 83 #[.string tw] W (DgV V W))
    (H6 : ∀ W, Calls Tryz.prog 83 #[.string d] W (DgV D W))
    (hh : cmpN V D = 0)
    (ht : (tw.toList == []) = false)
    (H7 : ∀ W, Calls Tryz.prog 84 #[.string fl, .string ⟨#[49]⟩] W (StE up 0 W))
    (H8 : ∀ W, Calls Tryz.prog 83 #[.string fl] W (DgF true W)) :
    Calls Tryz.prog 46 #[.string s, .int .u8 3] w (StE up 0 w) := by
  have J1 := Lib.hid H1
  have J2 := Lib.hid H2
  have J3 := Lib.hid H3
  have J4 := Lib.hid H4
  have J5 := Lib.hid H5
  have J6 := Lib.hid H6
  have HH := Lib.hid hh
  have J7 := Lib.hid H7
  have J8 := Lib.hid H8
  clear H1 H2 H3 H4 H5 H6 hh H7 H8
  go_enter Tryz.func46, Tryz.ntmps46
  go_wp2_with (first
    | (go_at_call 42; (with_reducible refine (J1.out _).mono ?_); rintro e u1 ⟨rfl, b⟩; have D1 := Lib.hid b; clear b)
    | (go_at_call 73; (with_reducible refine (J2.out _).mono ?_); rintro e u2 ⟨rfl, b⟩; have D2 := Lib.hid (bt D1.out b); clear b)
    | (go_at_call 81; (with_reducible refine (J3.out _).mono ?_); rintro e u3 ⟨rfl, b⟩; have D3 := Lib.hid (bt D2.out b); clear b)
    | (go_at_call 78; (with_reducible refine (J4.out _).mono ?_); rintro e u4 ⟨rfl, b⟩; have D4 := Lib.hid (bt D3.out b); clear b)
    | (go_at_call 83; (with_reducible refine (J5.out _).mono ?_); rintro e u5 ⟨A5, c5, xs, rfl, hS5, hd5, hl5, hv5, b⟩; have S5 := Lib.hid hS5; have Q5 := Lib.hid hd5; have V5 := Lib.hid hv5; have D5 := Lib.hid (bt D4.out b); clear b hS5 hd5 hv5)
    | (go_at_call 83; (with_reducible refine (J6.out _).mono ?_); rintro e u6 ⟨A6, c6, ys, rfl, hS6, hd6, hl6, hv6, b⟩; have S6 := Lib.hid hS6; have Q6 := Lib.hid hd6; have V6 := Lib.hid hv6; have S7 := Lib.hid (S5.out.below b); have D6 := Lib.hid (bt D5.out b); clear b hS6 hd6 hv6)
    | (go_at_call 82; refine (greater_of _ _ _ _ _ _ _ S7.out S6.out Q5.out Q6.out hl5 hl6 _ _ V5.out V6.out _ HH.out).mono ?_; rintro e u7 ⟨rfl, rfl⟩)
    | (go_at_call 83; (with_reducible refine (J8.out _).mono ?_); rintro e u8 ⟨b8, o8, n8, c8, x8, rfl, p8, q8, r8, s8, t8, v8, z8, b⟩; have D8 := Lib.hid (bt D6.out b); clear b)
    | (go_at_call 84; (with_reducible refine (J7.out _).mono ?_); rintro e u9 ⟨rfl, b⟩; have D9 := Lib.hid (bt D8.out b); clear b))
  go_ret2
  exact ⟨rfl, D9.out⟩
set_option maxRecDepth 100000 in
set_option maxHeartbeats 3200000 in
theorem rr_3_f (s n d fl rs tw : ByteArray) (V D : Nat) (f : Int) (w : World)
    (H1 : ∀ W, Calls Tryz.prog 42 #[.string s] W (IntB 0 W))
    (H2 : ∀ W, Calls Tryz.prog 73 #[.string s] W (TwoW n d W))
    (H3 : ∀ W, Calls Tryz.prog 81 #[.string n, .string d] W (TwoB fl rs 0 W))
    (hz : (rs.toList == [48]) = false)
    (H4 : ∀ W, Calls Tryz.prog 78 #[.string ⟨#[50]⟩, .string rs] W (StE tw f W))
    (H5 : ∀ W, Calls Tryz.prog 83 #[.string tw] W (DgV V W))
    (H6 : ∀ W, Calls Tryz.prog 83 #[.string d] W (DgV D W))
    (hh : cmpN V D = 0)
    (ht : (tw.toList == []) = false)
    (H8 : ∀ W, Calls Tryz.prog 83 #[.string fl] W (DgF false W)) :
    Calls Tryz.prog 46 #[.string s, .int .u8 3] w (StE fl 0 w) := by
  have J1 := Lib.hid H1
  have J2 := Lib.hid H2
  have J3 := Lib.hid H3
  have J4 := Lib.hid H4
  have J5 := Lib.hid H5
  have J6 := Lib.hid H6
  have HH := Lib.hid hh
  have J8 := Lib.hid H8
  clear H1 H2 H3 H4 H5 H6 hh H8
  go_enter Tryz.func46, Tryz.ntmps46
  go_wp2_with (first
    | (go_at_call 42; (with_reducible refine (J1.out _).mono ?_); rintro e u1 ⟨rfl, b⟩; have D1 := Lib.hid b; clear b)
    | (go_at_call 73; (with_reducible refine (J2.out _).mono ?_); rintro e u2 ⟨rfl, b⟩; have D2 := Lib.hid (bt D1.out b); clear b)
    | (go_at_call 81; (with_reducible refine (J3.out _).mono ?_); rintro e u3 ⟨rfl, b⟩; have D3 := Lib.hid (bt D2.out b); clear b)
    | (go_at_call 78; (with_reducible refine (J4.out _).mono ?_); rintro e u4 ⟨rfl, b⟩; have D4 := Lib.hid (bt D3.out b); clear b)
    | (go_at_call 83; (with_reducible refine (J5.out _).mono ?_); rintro e u5 ⟨A5, c5, xs, rfl, hS5, hd5, hl5, hv5, b⟩; have S5 := Lib.hid hS5; have Q5 := Lib.hid hd5; have V5 := Lib.hid hv5; have D5 := Lib.hid (bt D4.out b); clear b hS5 hd5 hv5)
    | (go_at_call 83; (with_reducible refine (J6.out _).mono ?_); rintro e u6 ⟨A6, c6, ys, rfl, hS6, hd6, hl6, hv6, b⟩; have S6 := Lib.hid hS6; have Q6 := Lib.hid hd6; have V6 := Lib.hid hv6; have S7 := Lib.hid (S5.out.below b); have D6 := Lib.hid (bt D5.out b); clear b hS6 hd6 hv6)
    | (go_at_call 82; refine (greater_of _ _ _ _ _ _ _ S7.out S6.out Q5.out Q6.out hl5 hl6 _ _ V5.out V6.out _ HH.out).mono ?_; rintro e u7 ⟨rfl, rfl⟩)
    | (go_at_call 83; (with_reducible refine (J8.out _).mono ?_); rintro e u8 ⟨b8, o8, n8, c8, x8, rfl, p8, q8, r8, s8, t8, v8, z8, b⟩; have D8 := Lib.hid (bt D6.out b); clear b))
  go_ret2
  exact ⟨rfl, D8.out⟩
set_option maxRecDepth 100000 in
set_option maxHeartbeats 1600000 in
theorem rr_mode (s : ByteArray) (m : Int) (h5 : 5 ≤ m) (h255 : m ≤ 255) (w : World) :
    Calls Tryz.prog 46 #[.string s, .int .u8 m] w (StE ⟨#[]⟩ 2 w) := by
  go_enter Tryz.func46, Tryz.ntmps46
  go_wp2
  go_ret2
  exact ⟨rfl, Below.refl _ _⟩
set_option maxRecDepth 100000 in
set_option maxHeartbeats 1600000 in
theorem rr_check (s : ByteArray) (m c : Int) (m0 : 0 ≤ m) (m4 : m ≤ 4) (hc : ¬ c = 0) (w : World)
    (H1 : ∀ W, Calls Tryz.prog 42 #[.string s] W (IntB c W)) :
    Calls Tryz.prog 46 #[.string s, .int .u8 m] w (StE ⟨#[]⟩ c w) := by
  have J1 := Lib.hid H1
  have zc : (c == 0) = false := by rw [beq_eq_false_iff_ne]; exact hc
  clear H1 hc
  go_enter Tryz.func46, Tryz.ntmps46
  go_wp2_with fail
  refine (J1.out _).mono ?_
  rintro e u1 ⟨rfl, b⟩
  have D1 := Lib.hid b
  clear b
  go_wp2_with fail
  refine (J1.out _).mono ?_
  rintro e u2 ⟨rfl, b⟩
  have D2 := Lib.hid (bt D1.out b)
  clear b
  go_wp2
  go_ret2
  exact ⟨rfl, D2.out⟩
end Go.Proofs.YtalnfbgaiegicaaGreatDoor
/- The reference of layer 2: what Round answers; Great of two. -/
namespace Go.Proofs.YtalnfbgaiegicaaGreatDoor
open Go Go.RowKit

theorem rep_two : rep 2 = ⟨#[50]⟩ := by decide +kernel
theorem rep_one' : rep 1 = ⟨#[49]⟩ := by decide +kernel
theorem rep_not_nil (z : Int) : ((rep z).toList == []) = false := rq_ne (z : Rat) _ (rq_int z)
theorem two_lim : (2 : Int).natAbs < lim := Nat.lt_of_lt_of_le (by decide) (le_lim 1 (by omega))
theorem one_lim : (1 : Int).natAbs < lim := Nat.lt_of_lt_of_le (by decide) (le_lim 1 (by omega))
theorem cmpN_half (r d : Nat) : cmpN (2 * r) d = cmpZ (r : Int) ((d : Int) - r) := by
  unfold cmpN cmpZ
  split <;> split <;> (try split) <;> (try split) <;> omega
theorem rep_sign (z : Int) : ∃ h0 : 0 < (rep z).size, (((rep z)[0].toNat : Int) == 45) = decide (z < 0) := by
  by_cases h : z < 0
  · obtain ⟨⟨q0, q1⟩, _⟩ := rep_neg_byte z h _ _ rfl rfl
    exact ⟨q0, by rw [decide_eq_true h]; exact q1⟩
  · obtain ⟨q0, q1⟩ := rep_pos_byte z (by omega) _ rfl
    exact ⟨q0, by rw [decide_eq_false h]; exact q1⟩
theorem rndQ_up {m : Nat} {q : Rat} (h0 : ¬ q.num % q.den = 0) (h : rndUp m q = true) : rep (rndQ m q) = rep (q.num / q.den + 1) := by unfold rndQ; rw [if_neg h0, if_pos h]
theorem rndQ_stay {m : Nat} {q : Rat} (h0 : ¬ q.num % q.den = 0) (h : rndUp m q = false) : rep (rndQ m q) = rep (q.num / q.den) := by unfold rndQ; rw [if_neg h0, if_neg (by rw [h]; decide)]
set_option maxHeartbeats 3200000 in
theorem refRound_q (q : Rat) (hq : Sml q) (k : Nat) (hk : k ≤ 4) (w : World) :
    Calls Tryz.prog 46 #[.string (rq q), .int .u8 k] w (StE (rep (rndQ k q)) 0 w) := by
  obtain ⟨l1, l2, l3⟩ := rnd_lims hq
  have hd := q.den_pos
  have H1 := rcheck_q hq
  have H2 := rwritten_q hq
  have H3 := fun W => refdm_rep hq.1 hq.2 (den_ne q) rfl rfl _ _ _ _ rfl rfl rfl rfl W
  by_cases hz : q.num % q.den = 0
  · rw [show rndQ k q = q.num / q.den by unfold rndQ; rw [if_pos hz]]
    exact rr_zero _ _ _ _ _ k (by omega) (by omega) w H1 H2 H3 (by rw [rep_is_zero]; exact decide_eq_true hz)
  have hz' : ((rep (q.num % q.den)).toList == [48]) = false := by rw [rep_is_zero]; exact decide_eq_false hz
  obtain ⟨n0, n1⟩ := rep_sign q.num
  have n2 : (((rep q.num)[0].toNat : Int) != 45) = !decide (q.num < 0) := by unfold bne; rw [n1]
  have h0r : 0 ≤ q.num % q.den := Int.emod_nonneg _ (den_ne q)
  have hrd : q.num % q.den < q.den := Int.emod_lt_of_pos _ (by omega)
  have H4 : ∀ W, Calls Tryz.prog 78 #[.string ⟨#[50]⟩, .string (rep (q.num % q.den))] W (StE (lT (2 * (q.num % q.den))) (lC (2 * (q.num % q.den))) W) := fun W => by
    rw [← rep_two]; exact refmul_l two_lim l2 rfl W
  have H6 : ∀ W, Calls Tryz.prog 83 #[.string (rep (q.den : Int))] W (DgV q.den W) :=
    digits2_any _ (chk_of_abs hq.2) (rep_small hq.2) _ (by rw [rep_data, num_itoa]; rfl)
  have H7 : ∀ W, Calls Tryz.prog 84 #[.string (rep (q.num / q.den)), .string ⟨#[49]⟩] W (StE (rep (q.num / q.den + 1)) 0 W) := fun W => by
    have hl : LB (q.num / q.den + 1) = true := LB_true.2 (Nat.lt_of_le_of_lt (floor_up (by omega) hz) hq.1)
    have h := refadd_l l1 one_lim rfl W
    rw [lT_ok hl, lC_ok hl, rep_one'] at h
    exact h
  have H8 : ∀ o, decide ((q.num / q.den) % 2 = 1) = o → ∀ W, Calls Tryz.prog 83 #[.string (rep (q.num / q.den))] W (DgF o W) := fun o ho =>
    digits2_first _ (chk_of_abs l1) (rep_small l1) _ (by rw [rep_data, num_itoa]; exact ho)
  have KU : k = 4 → rndUp k q = false := fun h => by subst h; rfl
  have K0 : rndUp 0 q = decide (q.num < 0) := rfl
  have K1 : rndUp 1 q = !decide (q.num < 0) := rfl
  have K2 : rndUp 2 q = (decide (0 < cmpZ (q.num % q.den) (q.den - q.num % q.den)) || (decide (cmpZ (q.num % q.den) (q.den - q.num % q.den) = 0) && !decide (q.num < 0))) := rfl
  have K3 : rndUp 3 q = (decide (0 < cmpZ (q.num % q.den) (q.den - q.num % q.den)) || (decide (cmpZ (q.num % q.den) (q.den - q.num % q.den) = 0) && decide ((q.num / q.den) % 2 = 1))) := rfl
  have U := fun m => rndQ_up (m := m) (q := q) hz
  have S := fun m => rndQ_stay (m := m) (q := q) hz
  have hk' : k = 0 ∨ k = 1 ∨ k = 2 ∨ k = 3 ∨ k = 4 := by omega
  cases hl : LB (2 * (q.num % q.den))
  · have ht : ((lT (2 * (q.num % q.den))).toList == []) = true := by unfold lT; rw [if_neg (by rw [hl]; decide), Lib.toList_data]; rfl
    have H5 : ∀ W, Calls Tryz.prog 83 #[.string (lT (2 * (q.num % q.den)))] W (DgV 0 W) := fun W => by
      unfold lT; rw [if_neg (by rw [hl]; decide)]; exact digits2_nil W
    have hc : cmpZ (q.num % q.den) (q.den - q.num % q.den) = 1 := by
      have h1 := LB_false hl
      have h2 := hq.2
      unfold cmpZ
      rw [if_neg (by omega), if_pos (by omega)]
    rw [hc] at K2 K3
    rcases hk' with rfl | rfl | rfl | rfl | rfl
    · cases hg : decide (q.num < 0) <;> rw [hg] at n1 K0
      · rw [S 0 K0]; exact rr_0_p_o _ _ _ _ _ _ _ _ _ _ w H1 H2 H3 hz' H4 H5 H6 rfl ht n0 n1
      · rw [U 0 K0]; exact rr_0_n_o _ _ _ _ _ _ _ _ _ _ _ w H1 H2 H3 hz' H4 H5 H6 rfl ht H7 n0 n1
    · cases hg : decide (q.num < 0) <;> rw [hg] at n1 n2 K1
      · rw [U 1 K1]; exact rr_1_p_o _ _ _ _ _ _ _ _ _ _ _ w H1 H2 H3 hz' H4 H5 H6 rfl ht H7 n0 n2
      · rw [S 1 K1]; exact rr_1_n_o _ _ _ _ _ _ _ _ _ _ w H1 H2 H3 hz' H4 H5 H6 rfl ht n0 n2
    · rw [U 2 (K2.trans (by simp))]; exact rr_2_o _ _ _ _ _ _ _ _ _ _ _ w H1 H2 H3 hz' H4 H5 H6 rfl ht H7
    · rw [U 3 (K3.trans (by simp))]; exact rr_3_o _ _ _ _ _ _ _ _ _ _ _ w H1 H2 H3 hz' H4 H5 H6 rfl ht H7
    · rw [S 4 rfl]; exact rr_4 _ _ _ _ _ w H1 H2 H3 hz'
  · have ht : ((lT (2 * (q.num % q.den))).toList == []) = false := by rw [lT_ok hl]; exact rep_not_nil _
    have hl2 := LB_true.1 hl
    obtain ⟨r, hr⟩ := Int.eq_ofNat_of_zero_le h0r
    have H5 : ∀ W, Calls Tryz.prog 83 #[.string (lT (2 * (q.num % q.den)))] W (DgV (2 * r) W) := fun W => by
      rw [lT_ok hl]; exact digits2_any _ (chk_of_abs hl2) (rep_small hl2) _ (by rw [rep_data, num_itoa]; omega) W
    have hh : cmpN (2 * r) q.den = cmpZ (q.num % q.den) (q.den - q.num % q.den) := by rw [cmpN_half r q.den, ← hr]
    have h3 := cmp_three (q.num % q.den) (q.den - q.num % q.den)
    generalize cmpZ (q.num % q.den) (q.den - q.num % q.den) = c at *
    rcases hk' with rfl | rfl | rfl | rfl | rfl
    · cases hg : decide (q.num < 0) <;> rw [hg] at n1 K0
      · rw [S 0 K0]; exact rr_0_p_f _ _ _ _ _ _ _ _ _ _ w H1 H2 H3 hz' H4 H5 H6 hh ht n0 n1
      · rw [U 0 K0]; exact rr_0_n_f _ _ _ _ _ _ _ _ _ _ _ w H1 H2 H3 hz' H4 H5 H6 hh ht H7 n0 n1
    · cases hg : decide (q.num < 0) <;> rw [hg] at n1 n2 K1
      · rw [U 1 K1]; exact rr_1_p_f _ _ _ _ _ _ _ _ _ _ _ w H1 H2 H3 hz' H4 H5 H6 hh ht H7 n0 n2
      · rw [S 1 K1]; exact rr_1_n_f _ _ _ _ _ _ _ _ _ _ w H1 H2 H3 hz' H4 H5 H6 hh ht n0 n2
    · rcases h3 with rfl | rfl | rfl
      · rw [S 2 (K2.trans (by simp))]; exact rr_2_m _ _ _ _ _ _ _ _ _ w H1 H2 H3 hz' H4 H5 H6 hh ht
      · cases hg : decide (q.num < 0) <;> rw [hg] at n1 n2 K2
        · rw [U 2 (K2.trans (by simp))]; exact rr_2_p _ _ _ _ _ _ _ _ _ _ w H1 H2 H3 hz' H4 H5 H6 hh ht H7 n0 n2
        · rw [S 2 (K2.trans (by simp))]; exact rr_2_n _ _ _ _ _ _ _ _ _ w H1 H2 H3 hz' H4 H5 H6 hh ht n0 n2
      · rw [U 2 (K2.trans (by simp))]; exact rr_2_u _ _ _ _ _ _ _ _ _ _ w H1 H2 H3 hz' H4 H5 H6 hh ht H7
    · rcases h3 with rfl | rfl | rfl
      · rw [S 3 (K3.trans (by simp))]; exact rr_3_m _ _ _ _ _ _ _ _ _ w H1 H2 H3 hz' H4 H5 H6 hh ht
      · cases ho : decide ((q.num / q.den) % 2 = 1) <;> rw [ho] at K3
        · rw [S 3 (K3.trans (by simp))]; exact rr_3_f _ _ _ _ _ _ _ _ _ w H1 H2 H3 hz' H4 H5 H6 hh ht (H8 _ ho)
        · rw [U 3 (K3.trans (by simp))]; exact rr_3_t _ _ _ _ _ _ _ _ _ _ w H1 H2 H3 hz' H4 H5 H6 hh ht H7 (H8 _ ho)
      · rw [U 3 (K3.trans (by simp))]; exact rr_3_u _ _ _ _ _ _ _ _ _ _ w H1 H2 H3 hz' H4 H5 H6 hh ht H7
    · rw [S 4 rfl]; exact rr_4 _ _ _ _ _ w H1 H2 H3 hz'
theorem refRound_any (s : ByteArray) (hs : s.size ≤ 1048576) (m : Int) (h0 : 0 ≤ m) (h255 : m ≤ 255) (w : World) :
    Calls Tryz.prog 46 #[.string s, .int .u8 m] w (StE (roT m s.data.toList) (roC m s.data.toList) w) := by
  unfold roT roC
  by_cases h5 : 5 ≤ m
  · rw [if_pos h5, if_neg (by decide)]
    exact rr_mode s m h5 h255 w
  rw [if_neg h5]
  rcases text_cases s with h1 | ⟨q, rfl, hq⟩
  · rw [if_neg h1]
    exact rr_check s m _ h0 (by omega) h1 w (refRCheck_any s hs)
  rw [rq_chk hq, if_pos rfl, qv_rq]
  obtain ⟨k, rfl⟩ := Int.eq_ofNat_of_zero_le h0
  exact refRound_q q hq k (by omega) w
/-- Great's answer. -/
def grt2 (ss : List ByteArray) : Bool := ss.any fun s => 2100 < s.size
theorem grt2_succ (ss : List ByteArray) (k : Nat) (h : k < ss.length) (ha : grt2 (ss.take k) = false) (hc : ¬ 2100 < ss[k].size) : grt2 (ss.take (k + 1)) = false := by
  unfold grt2 at *
  rw [take_snoc ss k h, List.any_append, ha]
  simpa using hc
theorem grt2_true (ss : List ByteArray) (k : Nat) (h : k < ss.length) (hc : 2100 < ss[k].size) : grt2 ss = true := by
  unfold grt2
  rw [List.any_eq_true]
  exact ⟨ss[k], List.getElem_mem h, by simpa using hc⟩
theorem grt2_all (ss : List ByteArray) (ha : grt2 (ss.take ss.length) = false) : grt2 ss = false := by
  rwa [List.take_of_length_le (Nat.le_refl _)] at ha
end Go.Proofs.YtalnfbgaiegicaaGreatDoor
/- The walks of the reference of layer 2: Sum, raised, Power. -/
namespace Go.Proofs.YtalnfbgaiegicaaGreatDoor
open Go Go.RowKit

theorem rep_is_one (y : Int) : ((rep y).toList == [49]) = decide (y = 1) := by
  have h := rep_one'
  by_cases hy : y = 1
  · subst hy
    rw [h, Lib.toList_data]; rfl
  · rw [decide_eq_false hy, beq_eq_false_iff_ne]
    intro e
    rw [Lib.toList_data, rep_data] at e
    have e2 := congrArg num e
    rw [num_itoa] at e2
    exact hy (e2.trans num_one)
theorem pow_divInt (q : Rat) (n : Nat) : Rat.divInt (q.num ^ n) ((q.den : Int) ^ n) = q ^ n := by
  have h := Rat.num_divInt_den (q ^ n)
  rw [Rat.num_pow, Rat.den_pow, Int.natCast_pow] at h
  exact h
theorem inv_divInt (q : Rat) (n : Nat) : Rat.divInt ((q.den : Int) ^ n) (q.num ^ n) = q⁻¹ ^ n := by
  rw [inv_pow, Rat.inv_def, Rat.num_pow, Rat.den_pow, Int.natCast_pow]
theorem LB_abs {x y : Int} (h : x.natAbs = y.natAbs) : LB x = LB y := by unfold LB; rw [h]
theorem powC_inv (q : Rat) (h0 : q.num ≠ 0) (n : Nat) : (if LB ((q.den : Int) ^ n) && LB (q.num ^ n) then 0 else 14) = powC q⁻¹ n := by
  obtain ⟨e1, e2⟩ := rat_inv q (num_ne h0)
  unfold powC
  have a1 : LB ((q.den : Int) ^ n) = LB (q⁻¹.num ^ n) := LB_abs (by
    rw [Int.natAbs_pow, Int.natAbs_pow, e1, Int.natAbs_mul, Int.natAbs_sign_of_ne_zero h0, Nat.one_mul])
  have a2 : LB (q.num ^ n) = LB ((q⁻¹.den : Int) ^ n) := LB_abs (by
    rw [Int.natAbs_pow, Int.natAbs_pow, e2, Int.natAbs_natCast])
  rw [a1, a2]
end Go.Proofs.YtalnfbgaiegicaaGreatDoor

/- Joined: RatAk, RatAl, RatAm, RatAp. -/
import Derived.Test.YtpgfadkkfofhcaaGreatDoorRatAf
import Derived.Test.YtpgfadkkfofhcaaGreatDoorRatAi
import Derived.Test.YtpgfadkkfofhcaaGreatDoorRatAo
/- The walks of the reference of layer 2: Four, Cross, fraction, Add, Negative, Sub, Mul, Div, Compare. -/
namespace Go.Proofs.YtpgfadkkfofhcaaGreatDoor
open Go Go.RowKit

def TwoW (n d : ByteArray) (w : World) (e : Ending) (w2 : World) : Prop := e = .returned (.tuple #[.string n, .string d]) ∧ Below w.heap.size w w2
theorem WriB {n d : ByteArray} {w : World} {e : Ending} {w2 : World} (h : WriR n d w e w2) : TwoW n d w e w2 := by
  obtain ⟨rfl, k, rfl⟩ := h
  exact ⟨rfl, below_drewN (Below.refl _ _) k⟩
set_option maxRecDepth 100000 in
set_option maxHeartbeats 1600000 in
theorem four_ok (s t n d m c : ByteArray) (w : World)
    (H1 : ∀ W, Calls Tryz.prog 74 #[.string s] W (IntB 0 W))
    (H2 : ∀ W, Calls Tryz.prog 74 #[.string t] W (IntB 0 W))
    (H3 : ∀ W, Calls Tryz.prog 75 #[.string s] W (TwoW n d W))
    (H4 : ∀ W, Calls Tryz.prog 75 #[.string t] W (TwoW m c W)) :
    Calls Tryz.prog 49 #[.string s, .string t] w (FourR n d m c 0 w) := by
  have J1 := Lib.hid H1
  have J2 := Lib.hid H2
  have J3 := Lib.hid H3
  have J4 := Lib.hid H4
  clear H1 H2 H3 H4
  go_enter Tryz.func49, Tryz.ntmps49
  go_wp2_with (first
    | (go_at_call 74; (with_reducible refine (J1.out _).mono ?_); rintro e u1 ⟨rfl, b⟩; have D1 := Lib.hid b; clear b)
    | (go_at_call 74; (with_reducible refine (J2.out _).mono ?_); rintro e u2 ⟨rfl, b⟩; have D2 := Lib.hid (bt D1.out b); clear b)
    | (go_at_call 75; (with_reducible refine (J3.out _).mono ?_); rintro e u3 ⟨rfl, b⟩; have D3 := Lib.hid (bt D2.out b); clear b)
    | (go_at_call 75; (with_reducible refine (J4.out _).mono ?_); rintro e u4 ⟨rfl, b⟩; have D4 := Lib.hid (bt D3.out b); clear b))
  exact bodyPost_ret (v := .tuple #[.string n, .string d, .string m, .string c, .int .i64 0]) (by simp [results, Tryz.results49, go_sem]) rfl ⟨rfl, D4.out⟩
set_option maxRecDepth 100000 in
set_option maxHeartbeats 1600000 in
theorem four_one (s t : ByteArray) (c : Int) (hc : ¬ c = 0) (w : World)
    (H1 : ∀ W, Calls Tryz.prog 74 #[.string s] W (IntB c W)) :
    Calls Tryz.prog 49 #[.string s, .string t] w (FourR ⟨#[]⟩ ⟨#[]⟩ ⟨#[]⟩ ⟨#[]⟩ c w) := by
  have J1 := Lib.hid H1
  have zc : (c == 0) = false := by rw [beq_eq_false_iff_ne]; exact hc
  clear H1 hc
  go_enter Tryz.func49, Tryz.ntmps49
  go_wp2_with fail
  refine (J1.out _).mono ?_
  rintro e u1 ⟨rfl, b⟩
  have D1 := Lib.hid b
  clear b
  go_wp2_with fail
  refine (J1.out _).mono ?_
  rintro e u2 ⟨rfl, b⟩
  have D2 := Lib.hid (bt D1.out b)
  clear b
  go_wp2
  exact bodyPost_ret (v := .tuple #[.string ⟨#[]⟩, .string ⟨#[]⟩, .string ⟨#[]⟩, .string ⟨#[]⟩, .int .i64 c]) (by simp [results, Tryz.results49, go_sem]) rfl ⟨rfl, D2.out⟩
set_option maxRecDepth 100000 in
set_option maxHeartbeats 1600000 in
theorem four_two (s t : ByteArray) (c : Int) (hc : ¬ c = 0) (w : World)
    (H1 : ∀ W, Calls Tryz.prog 74 #[.string s] W (IntB 0 W))
    (H2 : ∀ W, Calls Tryz.prog 74 #[.string t] W (IntB c W)) :
    Calls Tryz.prog 49 #[.string s, .string t] w (FourR ⟨#[]⟩ ⟨#[]⟩ ⟨#[]⟩ ⟨#[]⟩ c w) := by
  have J1 := Lib.hid H1
  have J2 := Lib.hid H2
  have zc : (c == 0) = false := by rw [beq_eq_false_iff_ne]; exact hc
  clear H1 H2 hc
  go_enter Tryz.func49, Tryz.ntmps49
  go_wp2_with fail
  refine (J1.out _).mono ?_
  rintro e u1 ⟨rfl, b⟩
  have D1 := Lib.hid b
  clear b
  go_wp2_with fail
  refine (J2.out _).mono ?_
  rintro e u2 ⟨rfl, b⟩
  have D2 := Lib.hid (bt D1.out b)
  clear b
  go_wp2_with fail
  refine (J2.out _).mono ?_
  rintro e u3 ⟨rfl, b⟩
  have D3 := Lib.hid (bt D2.out b)
  clear b
  go_wp2
  exact bodyPost_ret (v := .tuple #[.string ⟨#[]⟩, .string ⟨#[]⟩, .string ⟨#[]⟩, .string ⟨#[]⟩, .int .i64 c]) (by simp [results, Tryz.results49, go_sem]) rfl ⟨rfl, D3.out⟩
set_option maxRecDepth 100000 in
set_option maxHeartbeats 1600000 in
theorem cross_e (s t n d m k : ByteArray) (c : Int) (hc : ¬ c = 0) (w : World)
    (H1 : ∀ W, Calls Tryz.prog 49 #[.string s, .string t] W (FourR n d m k c W)) :
    Calls Tryz.prog 48 #[.string s, .string t] w (TwoB ⟨#[]⟩ ⟨#[]⟩ c w) := by
  have J1 := Lib.hid H1
  have zc : (c == 0) = false := by rw [beq_eq_false_iff_ne]; exact hc
  clear H1 hc
  go_enter Tryz.func48, Tryz.ntmps48
  go_wp2_with (first
    | (go_at_call 49; (with_reducible refine (J1.out _).mono ?_); rintro e u1 ⟨rfl, b⟩; have D1 := Lib.hid b; clear b))
  exact bodyPost_ret (v := .tuple #[.string ⟨#[]⟩, .string ⟨#[]⟩, .int .i64 c]) (by simp [results, Tryz.results48, go_sem]) rfl ⟨rfl, D1.out⟩
set_option maxRecDepth 100000 in
set_option maxHeartbeats 1600000 in
theorem cross_1 (s t n d m k x y : ByteArray) (f g : Int) (hf : ¬ f = 0) (w : World)
    (H1 : ∀ W, Calls Tryz.prog 49 #[.string s, .string t] W (FourR n d m k 0 W))
    (H2 : ∀ W, Calls Tryz.prog 51 #[.string n, .string k] W (StE x f W))
    (H3 : ∀ W, Calls Tryz.prog 51 #[.string m, .string d] W (StE y g W)) :
    Calls Tryz.prog 48 #[.string s, .string t] w (TwoB ⟨#[]⟩ ⟨#[]⟩ 14 w) := by
  have J1 := Lib.hid H1
  have J2 := Lib.hid H2
  have J3 := Lib.hid H3
  have zf : (f == 0) = false := by rw [beq_eq_false_iff_ne]; exact hf
  clear H1 H2 H3 hf
  go_enter Tryz.func48, Tryz.ntmps48
  go_wp2_with (first
    | (go_at_call 49; (with_reducible refine (J1.out _).mono ?_); rintro e u1 ⟨rfl, b⟩; have D1 := Lib.hid b; clear b)
    | (go_at_call 51; (with_reducible refine (J2.out _).mono ?_); rintro e u2 ⟨rfl, b⟩; have D2 := Lib.hid (bt D1.out b); clear b)
    | (go_at_call 51; (with_reducible refine (J3.out _).mono ?_); rintro e u3 ⟨rfl, b⟩; have D3 := Lib.hid (bt D2.out b); clear b))
  exact bodyPost_ret (v := .tuple #[.string ⟨#[]⟩, .string ⟨#[]⟩, .int .i64 14]) (by simp [results, Tryz.results48, go_sem]) rfl ⟨rfl, D3.out⟩
set_option maxRecDepth 100000 in
set_option maxHeartbeats 1600000 in
theorem cross_2 (s t n d m k x y : ByteArray) (g : Int) (hg : ¬ g = 0) (w : World)
    (H1 : ∀ W, Calls Tryz.prog 49 #[.string s, .string t] W (FourR n d m k 0 W))
    (H2 : ∀ W, Calls Tryz.prog 51 #[.string n, .string k] W (StE x 0 W))
    (H3 : ∀ W, Calls Tryz.prog 51 #[.string m, .string d] W (StE y g W)) :
    Calls Tryz.prog 48 #[.string s, .string t] w (TwoB ⟨#[]⟩ ⟨#[]⟩ 14 w) := by
  have J1 := Lib.hid H1
  have J2 := Lib.hid H2
  have J3 := Lib.hid H3
  have zg : (g == 0) = false := by rw [beq_eq_false_iff_ne]; exact hg
  clear H1 H2 H3 hg
  go_enter Tryz.func48, Tryz.ntmps48
  go_wp2_with (first
    | (go_at_call 49; (with_reducible refine (J1.out _).mono ?_); rintro e u1 ⟨rfl, b⟩; have D1 := Lib.hid b; clear b)
    | (go_at_call 51; (with_reducible refine (J2.out _).mono ?_); rintro e u2 ⟨rfl, b⟩; have D2 := Lib.hid (bt D1.out b); clear b)
    | (go_at_call 51; (with_reducible refine (J3.out _).mono ?_); rintro e u3 ⟨rfl, b⟩; have D3 := Lib.hid (bt D2.out b); clear b))
  exact bodyPost_ret (v := .tuple #[.string ⟨#[]⟩, .string ⟨#[]⟩, .int .i64 14]) (by simp [results, Tryz.results48, go_sem]) rfl ⟨rfl, D3.out⟩
set_option maxRecDepth 100000 in
set_option maxHeartbeats 1600000 in
theorem cross_ok (s t n d m k x y : ByteArray) (w : World)
    (H1 : ∀ W, Calls Tryz.prog 49 #[.string s, .string t] W (FourR n d m k 0 W))
    (H2 : ∀ W, Calls Tryz.prog 51 #[.string n, .string k] W (StE x 0 W))
    (H3 : ∀ W, Calls Tryz.prog 51 #[.string m, .string d] W (StE y 0 W)) :
    Calls Tryz.prog 48 #[.string s, .string t] w (TwoB x y 0 w) := by
  have J1 := Lib.hid H1
  have J2 := Lib.hid H2
  have J3 := Lib.hid H3
  clear H1 H2 H3
  go_enter Tryz.func48, Tryz.ntmps48
  go_wp2_with (first
    | (go_at_call 49; (with_reducible refine (J1.out _).mono ?_); rintro e u1 ⟨rfl, b⟩; have D1 := Lib.hid b; clear b)
    | (go_at_call 51; (with_reducible refine (J2.out _).mono ?_); rintro e u2 ⟨rfl, b⟩; have D2 := Lib.hid (bt D1.out b); clear b)
    | (go_at_call 51; (with_reducible refine (J3.out _).mono ?_); rintro e u3 ⟨rfl, b⟩; have D3 := Lib.hid (bt D2.out b); clear b))
  exact bodyPost_ret (v := .tuple #[.string x, .string y, .int .i64 0]) (by simp [results, Tryz.results48, go_sem]) rfl ⟨rfl, D3.out⟩
set_option maxRecDepth 100000 in
set_option maxHeartbeats 1600000 in
theorem frac_1 (n d : ByteArray) (f g : Int) (hf : ¬ f = 0) (w : World) :
    Calls Tryz.prog 52 #[.string n, .string d, .int .i64 f, .int .i64 g] w (StE ⟨#[]⟩ 14 w) := by
  have zf : (f == 0) = false := by rw [beq_eq_false_iff_ne]; exact hf
  clear  hf
  go_enter Tryz.func52, Tryz.ntmps52
  go_wp2
  go_ret2
  exact ⟨rfl, Below.refl _ _⟩
set_option maxRecDepth 100000 in
set_option maxHeartbeats 1600000 in
theorem frac_2 (n d : ByteArray) (g : Int) (hg : ¬ g = 0) (w : World) :
    Calls Tryz.prog 52 #[.string n, .string d, .int .i64 0, .int .i64 g] w (StE ⟨#[]⟩ 14 w) := by
  have zg : (g == 0) = false := by rw [beq_eq_false_iff_ne]; exact hg
  clear  hg
  go_enter Tryz.func52, Tryz.ntmps52
  go_wp2
  go_ret2
  exact ⟨rfl, Below.refl _ _⟩
set_option maxRecDepth 100000 in
set_option maxHeartbeats 1600000 in
theorem frac_ok (n d R : ByteArray) (c : Int) (w : World)
    (H1 : ∀ W, Calls Tryz.prog 46 #[.string n, .string d] W (StE R c W)) :
    Calls Tryz.prog 52 #[.string n, .string d, .int .i64 0, .int .i64 0] w (StE R c w) := by
  have J1 := Lib.hid H1
  clear H1
  go_enter Tryz.func52, Tryz.ntmps52
  go_wp2_with (first
    | (go_at_call 46; (with_reducible refine (J1.out _).mono ?_); rintro e u1 ⟨rfl, b⟩; have D1 := Lib.hid b; clear b))
  go_ret2
  exact ⟨rfl, D1.out⟩
set_option maxRecDepth 100000 in
set_option maxHeartbeats 1600000 in
theorem rfadd_e (s t x y : ByteArray) (c : Int) (hc : ¬ c = 0) (w : World)
    (H1 : ∀ W, Calls Tryz.prog 48 #[.string s, .string t] W (TwoB x y c W)) :
    Calls Tryz.prog 27 #[.string s, .string t] w (StE ⟨#[]⟩ c w) := by
  have J1 := Lib.hid H1
  have zc : (c == 0) = false := by rw [beq_eq_false_iff_ne]; exact hc
  clear H1 hc
  go_enter Tryz.func27, Tryz.ntmps27
  go_wp2_with (first
    | (go_at_call 48; (with_reducible refine (J1.out _).mono ?_); rintro e u1 ⟨rfl, b⟩; have D1 := Lib.hid b; clear b))
  go_ret2
  exact ⟨rfl, D1.out⟩
set_option maxRecDepth 100000 in
set_option maxHeartbeats 1600000 in
theorem rfadd_ok (s t x y n d m k p q R : ByteArray) (f g c : Int) (w : World)
    (H1 : ∀ W, Calls Tryz.prog 48 #[.string s, .string t] W (TwoB x y 0 W))
    (H2 : ∀ W, Calls Tryz.prog 49 #[.string s, .string t] W (FourR n d m k 0 W))
    (H3 : ∀ W, Calls Tryz.prog 50 #[.string x, .string y] W (StE p f W))
    (H4 : ∀ W, Calls Tryz.prog 51 #[.string d, .string k] W (StE q g W))
    (H5 : ∀ W, Calls Tryz.prog 52 #[.string p, .string q, .int .i64 f, .int .i64 g] W (StE R c W)) :
    Calls Tryz.prog 27 #[.string s, .string t] w (StE R c w) := by
  have J1 := Lib.hid H1
  have J2 := Lib.hid H2
  have J3 := Lib.hid H3
  have J4 := Lib.hid H4
  have J5 := Lib.hid H5
  clear H1 H2 H3 H4 H5
  go_enter Tryz.func27, Tryz.ntmps27
  go_wp2_with (first
    | (go_at_call 48; (with_reducible refine (J1.out _).mono ?_); rintro e u1 ⟨rfl, b⟩; have D1 := Lib.hid b; clear b)
    | (go_at_call 49; (with_reducible refine (J2.out _).mono ?_); rintro e u2 ⟨rfl, b⟩; have D2 := Lib.hid (bt D1.out b); clear b)
    | (go_at_call 50; (with_reducible refine (J3.out _).mono ?_); rintro e u3 ⟨rfl, b⟩; have D3 := Lib.hid (bt D2.out b); clear b)
    | (go_at_call 51; (with_reducible refine (J4.out _).mono ?_); rintro e u4 ⟨rfl, b⟩; have D4 := Lib.hid (bt D3.out b); clear b)
    | (go_at_call 52; (with_reducible refine (J5.out _).mono ?_); rintro e u5 ⟨rfl, b⟩; have D5 := Lib.hid (bt D4.out b); clear b))
  go_ret2
  exact ⟨rfl, D5.out⟩
/-- Products and sums of two integers' texts by the reference. -/
def lT (z : Int) : ByteArray := if LB z = true then rep z else ⟨#[]⟩
def lC (z : Int) : Int := if LB z = true then 0 else 14
theorem lT_ok {z : Int} (h : LB z = true) : lT z = rep z := if_pos h
theorem lC_ok {z : Int} (h : LB z = true) : lC z = 0 := if_pos h
theorem lC_no {z : Int} (h : LB z = false) : lC z = 14 := if_neg (by rw [h]; decide)
theorem limS_l (z : Int) : (⟨(limS z).1.toArray⟩ : ByteArray) = lT z ∧ (limS z).2 = lC z := by
  unfold limS lT lC
  cases h : LB z
  · rw [if_neg (LB_false h), if_neg (by decide), if_neg (by decide)]; exact ⟨rfl, rfl⟩
  · rw [if_pos (LB_true.1 h), if_pos rfl, if_pos rfl]; exact ⟨rfl, rfl⟩
theorem refmul_l {x y z : Int} (hx : x.natAbs < lim) (hy : y.natAbs < lim) (hz : x * y = z) (w : World) : Calls Tryz.prog 51 #[.string (rep x), .string (rep y)] w (StE (lT z) (lC z) w) := by
  subst hz
  have h := refMul_any (rep x) (rep y) (rep_small hx) (rep_small hy) w
  rw [rep_data, rep_data, opS_ok (chk_rep hx hy), num_itoa, num_itoa, (limS_l _).1, (limS_l _).2] at h
  exact h
theorem refadd_l {x y z : Int} (hx : x.natAbs < lim) (hy : y.natAbs < lim) (hz : x + y = z) (w : World) : Calls Tryz.prog 50 #[.string (rep x), .string (rep y)] w (StE (lT z) (lC z) w) := by
  subst hz
  have h := refAdd_any (rep x) (rep y) (rep_small hx) (rep_small hy) w
  rw [rep_data, rep_data, opS_ok (chk_rep hx hy), num_itoa, num_itoa, (limS_l _).1, (limS_l _).2] at h
  exact h
/-- The fraction of two computed integers. -/
theorem frac_l {x y : Int} {q : Rat} (h0 : y ≠ 0) (hq : Rat.divInt x y = q) (c : Int) (hc : (if LB x && LB y then 0 else 14) = c) (w : World) :
    Calls Tryz.prog 52 #[.string (lT x), .string (lT y), .int .i64 (lC x), .int .i64 (lC y)] w (StE (qT c q) c w) := by
  cases h1 : LB x
  · rw [h1] at hc
    obtain rfl : 14 = c := hc
    rw [qT_err (by decide)]
    exact frac_1 _ _ _ _ (by rw [lC_no h1]; decide) w
  cases h2 : LB y
  · rw [h1, h2] at hc
    obtain rfl : 14 = c := hc
    rw [qT_err (by decide), lC_ok h1]
    exact frac_2 _ _ _ (by rw [lC_no h2]; decide) w
  rw [h1, h2] at hc
  obtain rfl : 0 = c := hc
  rw [lC_ok h1, lC_ok h2, lT_ok h1, lT_ok h2, qT_ok]
  refine frac_ok _ _ _ _ w (fun W => ?_)
  have hx := LB_true.1 h1
  have hy := LB_true.1 h2
  have h := refMake_any (rep x) (rep y) (rep_small hx) (rep_small hy) W
  rw [rep_data, rep_data, mkS_ok (chk_rep hx hy) (by rw [num_itoa]; exact h0), num_itoa, num_itoa, qN_rat h0, qD_rat h0, hq] at h
  exact h
theorem rcheck_q {q : Rat} (h : Sml q) (W : World) : Calls Tryz.prog 74 #[.string (rq q)] W (IntB 0 W) := by
  have k := refRCheck_any (rq q) (by have := rq_size h; omega) W
  rw [rq_chk h] at k
  exact k
theorem rwritten_q {q : Rat} (h : Sml q) (W : World) : Calls Tryz.prog 75 #[.string (rq q)] W (TwoW (rep q.num) (rep (q.den : Int)) W) := by
  have k := written_any (rq q) (by have := rq_size h; omega) W
  rw [rq_nB, rq_dB] at k
  exact k.mono fun e w h => WriB h
theorem four_q {a b : Rat} (ha : Sml a) (hb : Sml b) (w : World) : Calls Tryz.prog 49 #[.string (rq a), .string (rq b)] w (FourR (rep a.num) (rep (a.den : Int)) (rep b.num) (rep (b.den : Int)) 0 w) :=
  four_ok _ _ _ _ _ _ w (rcheck_q ha) (rcheck_q hb) (rwritten_q ha) (rwritten_q hb)
/-- Four of texts, one of them wrong. -/
theorem four_bad (f : Rat → Rat → Int) (s t : ByteArray) (hs : s.size ≤ 1048576) (ht : t.size ≤ 1048576) :
    (¬ twC f s.data.toList t.data.toList = 0 ∧ ∀ w, Calls Tryz.prog 49 #[.string s, .string t] w (FourR ⟨#[]⟩ ⟨#[]⟩ ⟨#[]⟩ ⟨#[]⟩ (twC f s.data.toList t.data.toList) w)) ∨ ∃ a b, s = rq a ∧ t = rq b ∧ Sml a ∧ Sml b := by
  rcases text_cases s with h1 | ⟨a, rfl, ha⟩
  · left
    rw [twC_l h1]
    exact ⟨h1, fun w => four_one _ _ _ h1 w (refRCheck_any s hs)⟩
  rcases text_cases t with h2 | ⟨b, rfl, hb⟩
  · left
    rw [twC_r (rq_chk ha) h2]
    exact ⟨h2, fun w => four_two _ _ _ h2 w (rcheck_q ha) (refRCheck_any t ht)⟩
  · exact .inr ⟨a, b, rfl, rfl, ha, hb⟩
theorem cross_q {a b : Rat} (ha : Sml a) (hb : Sml b) (h1 : LB (a.num * b.den) = true) (h2 : LB (b.num * a.den) = true) (w : World) :
    Calls Tryz.prog 48 #[.string (rq a), .string (rq b)] w (TwoB (rep (a.num * b.den)) (rep (b.num * a.den)) 0 w) := by
  have m1 := fun W => refmul_l ha.1 hb.2 rfl W
  have m2 := fun W => refmul_l hb.1 ha.2 rfl W
  rw [lT_ok h1, lC_ok h1] at m1
  rw [lT_ok h2, lC_ok h2] at m2
  exact cross_ok _ _ _ _ _ _ _ _ w (four_q ha hb) m1 m2
theorem cross_no {a b : Rat} (ha : Sml a) (hb : Sml b) (h : (LB (a.num * b.den) && LB (b.num * a.den)) = false) (w : World) :
    Calls Tryz.prog 48 #[.string (rq a), .string (rq b)] w (TwoB ⟨#[]⟩ ⟨#[]⟩ 14 w) := by
  have m1 := fun W => refmul_l ha.1 hb.2 rfl W
  have m2 := fun W => refmul_l hb.1 ha.2 rfl W
  cases h1 : LB (a.num * b.den)
  · exact cross_1 _ _ _ _ _ _ _ _ _ _ (by rw [lC_no h1]; decide) w (four_q ha hb) m1 m2
  · rw [h1] at h
    have h2 : LB (b.num * a.den) = false := h
    rw [lC_ok h1] at m1
    exact cross_2 _ _ _ _ _ _ _ _ _ (by rw [lC_no h2]; decide) w (four_q ha hb) m1 m2
theorem refradd_q {a b : Rat} (ha : Sml a) (hb : Sml b) (w : World) :
    Calls Tryz.prog 27 #[.string (rq a), .string (rq b)] w (StE (qT (addC a b) (a + b)) (addC a b) w) := by
  cases h1 : (LB (a.num * b.den) && LB (b.num * a.den))
  · have e : addC a b = 14 := by unfold addC; rw [h1]; rfl
    rw [e, qT_err (by decide)]
    exact rfadd_e _ _ _ _ _ (by decide) w (cross_no ha hb h1)
  · have ⟨k1, k2⟩ : LB (a.num * b.den) = true ∧ LB (b.num * a.den) = true := by simpa using h1
    refine rfadd_ok _ _ _ _ _ _ _ _ _ _ _ _ _ _ w (cross_q ha hb k1 k2) (four_q ha hb) (fun W => refadd_l (LB_true.1 k1) (LB_true.1 k2) rfl W) (fun W => refmul_l ha.2 hb.2 rfl W) (fun W => frac_l (den_mul_ne a b) (rat_add a b).symm _ ?_ W)
    unfold addC
    rw [h1, Bool.true_and, Bool.and_comm]
theorem refradd_any (s t : ByteArray) (hs : s.size ≤ 1048576) (ht : t.size ≤ 1048576) (w : World) :
    Calls Tryz.prog 27 #[.string s, .string t] w (StE (twT addC (· + ·) s.data.toList t.data.toList) (twC addC s.data.toList t.data.toList) w) := by
  rcases four_bad addC s t hs ht with ⟨h, H⟩ | ⟨a, b, rfl, rfl, ha, hb⟩
  · unfold twT
    rw [qT_err h]
    exact rfadd_e _ _ _ _ _ h w (fun W => cross_e _ _ _ _ _ _ _ h W H)
  · rw [twT_rq ha hb, twC_rq ha hb]
    exact refradd_q ha hb w
theorem rq_minus {q : Rat} (h : 0 < q.num) : (⟨#[45]⟩ : ByteArray) ++ rq q = rq (-q) := by
  obtain ⟨u, hu⟩ := Int.eq_ofNat_of_zero_le (show 0 ≤ q.num by omega)
  apply WideShapes.bytes_inj
  rw [show ((⟨#[45]⟩ : ByteArray) ++ rq q).data.toList = 45 :: (rq q).data.toList by simp, rq_data, rq_data, Rat.neg_num, Rat.neg_den, hu, itoa_neg u (by omega), itoa_pos]
  unfold txtL
  split <;> rfl
theorem sml_neg {q : Rat} (h : Sml q) : Sml (-q) := ⟨by rw [Rat.neg_num, Int.natAbs_neg]; exact h.1, by rw [Rat.neg_den]; exact h.2⟩
theorem LB_neg (z : Int) : LB (-z) = LB z := by unfold LB; rw [Int.natAbs_neg]
theorem addC_neg (a b : Rat) : addC a (-b) = subC a b := by
  unfold addC subC
  rw [Rat.neg_num, Rat.neg_den, Int.neg_mul, LB_neg, ← Int.sub_eq_add_neg]
end Go.Proofs.YtpgfadkkfofhcaaGreatDoor
/- The walks of the reference of layer 2: digits, Round. -/
namespace Go.Proofs.YtpgfadkkfofhcaaGreatDoor
open Go Go.RowKit

/-- A list of digits of worth V. -/
def DgV (V : Nat) (w : World) (e : Ending) (w' : World) : Prop := ∃ A c xs, e = .returned (.slice A xs.length c) ∧ SlA encI w' A xs ∧ (∀ d ∈ xs, d < 10) ∧ xs.length ≤ 1000 ∧ vl 10 xs = V ∧ Below w.heap.size w w'
theorem bod_some {l : List UInt8} (h : chk l = 0) : 0 < (bod l).length := by
  rcases can_cases l (by rw [h]; decide) with rfl | ⟨hs, _⟩
  · decide
  · cases hb : bod l with
    | nil => rw [hb] at hs; cases hs
    | cons c r => simp
/-- The first digit, odd or not. -/
def DgF (odd : Bool) (w : World) (e : Ending) (w' : World) : Prop := ∃ (b o' n c : Nat) (x : Int), e = .returned (.slice (some ⟨b, o', none⟩) n c) ∧ 0 < n ∧ n ≤ 1000 ∧ w'.cell? ⟨b, o', none⟩ = some (.int .i64 x) ∧ w'.cell? ⟨b, o' + 0, none⟩ = some (.int .i64 x) ∧ 0 ≤ x ∧ x ≤ 9 ∧ (x % 2 == 1) = odd ∧ Below w.heap.size w w'
theorem greater_of (A B : Option Addr) (ca cb : Nat) (xs ys : List Nat) (w : World) (hA : SlA encI w A xs) (hB : SlA encI w B ys) (ha : ∀ d ∈ xs, d < 10) (hb : ∀ d ∈ ys, d < 10) (hla : xs.length ≤ 1000) (hlb : ys.length ≤ 1000)
    (V D : Nat) (hV : vl 10 xs = V) (hD : vl 10 ys = D) (h : Int) (hh : cmpN V D = h) :
    Calls Tryz.prog 78 #[.slice A xs.length ca, .slice B ys.length cb] w (IntR h w) := by
  subst hV; subst hD; subst hh
  exact greater_any A B ca cb xs ys w hA hB ha hb (by omega) (by omega)

end Go.Proofs.YtpgfadkkfofhcaaGreatDoor
/- The reference of layer 2: what Round answers; Great of two. -/
namespace Go.Proofs.YtpgfadkkfofhcaaGreatDoor
open Go Go.RowKit

theorem rep_two : rep 2 = ⟨#[50]⟩ := by decide +kernel
theorem rep_one' : rep 1 = ⟨#[49]⟩ := by decide +kernel
theorem rep_not_nil (z : Int) : ((rep z).toList == []) = false := rq_ne (z : Rat) _ (rq_int z)
theorem two_lim : (2 : Int).natAbs < lim := Nat.lt_of_lt_of_le (by decide) (le_lim 1 (by omega))
theorem one_lim : (1 : Int).natAbs < lim := Nat.lt_of_lt_of_le (by decide) (le_lim 1 (by omega))
theorem cmpN_half (r d : Nat) : cmpN (2 * r) d = cmpZ (r : Int) ((d : Int) - r) := by
  unfold cmpN cmpZ
  split <;> split <;> (try split) <;> (try split) <;> omega
theorem rep_sign (z : Int) : ∃ h0 : 0 < (rep z).size, (((rep z)[0].toNat : Int) == 45) = decide (z < 0) := by
  by_cases h : z < 0
  · obtain ⟨⟨q0, q1⟩, _⟩ := rep_neg_byte z h _ _ rfl rfl
    exact ⟨q0, by rw [decide_eq_true h]; exact q1⟩
  · obtain ⟨q0, q1⟩ := rep_pos_byte z (by omega) _ rfl
    exact ⟨q0, by rw [decide_eq_false h]; exact q1⟩
theorem rndQ_up {m : Nat} {q : Rat} (h0 : ¬ q.num % q.den = 0) (h : rndUp m q = true) : rep (rndQ m q) = rep (q.num / q.den + 1) := by unfold rndQ; rw [if_neg h0, if_pos h]
theorem rndQ_stay {m : Nat} {q : Rat} (h0 : ¬ q.num % q.den = 0) (h : rndUp m q = false) : rep (rndQ m q) = rep (q.num / q.den) := by unfold rndQ; rw [if_neg h0, if_neg (by rw [h]; decide)]
/-- Great's answer. -/
def grt2 (ss : List ByteArray) : Bool := ss.any fun s => 2100 < s.size
theorem grt2_succ (ss : List ByteArray) (k : Nat) (h : k < ss.length) (ha : grt2 (ss.take k) = false) (hc : ¬ 2100 < ss[k].size) : grt2 (ss.take (k + 1)) = false := by
  unfold grt2 at *
  rw [take_snoc ss k h, List.any_append, ha]
  simpa using hc
theorem grt2_true (ss : List ByteArray) (k : Nat) (h : k < ss.length) (hc : 2100 < ss[k].size) : grt2 ss = true := by
  unfold grt2
  rw [List.any_eq_true]
  exact ⟨ss[k], List.getElem_mem h, by simpa using hc⟩
theorem grt2_all (ss : List ByteArray) (ha : grt2 (ss.take ss.length) = false) : grt2 ss = false := by
  rwa [List.take_of_length_le (Nat.le_refl _)] at ha
end Go.Proofs.YtpgfadkkfofhcaaGreatDoor
/- The walks of the reference of layer 2: Sum, raised, Power. -/
namespace Go.Proofs.YtpgfadkkfofhcaaGreatDoor
open Go Go.RowKit

theorem rep_is_one (y : Int) : ((rep y).toList == [49]) = decide (y = 1) := by
  have h := rep_one'
  by_cases hy : y = 1
  · subst hy
    rw [h, Lib.toList_data]; rfl
  · rw [decide_eq_false hy, beq_eq_false_iff_ne]
    intro e
    rw [Lib.toList_data, rep_data] at e
    have e2 := congrArg num e
    rw [num_itoa] at e2
    exact hy (e2.trans num_one)
theorem pow_divInt (q : Rat) (n : Nat) : Rat.divInt (q.num ^ n) ((q.den : Int) ^ n) = q ^ n := by
  have h := Rat.num_divInt_den (q ^ n)
  rw [Rat.num_pow, Rat.den_pow, Int.natCast_pow] at h
  exact h
theorem inv_divInt (q : Rat) (n : Nat) : Rat.divInt ((q.den : Int) ^ n) (q.num ^ n) = q⁻¹ ^ n := by
  rw [inv_pow, Rat.inv_def, Rat.num_pow, Rat.den_pow, Int.natCast_pow]
theorem LB_abs {x y : Int} (h : x.natAbs = y.natAbs) : LB x = LB y := by unfold LB; rw [h]
theorem powC_inv (q : Rat) (h0 : q.num ≠ 0) (n : Nat) : (if LB ((q.den : Int) ^ n) && LB (q.num ^ n) then 0 else 14) = powC q⁻¹ n := by
  obtain ⟨e1, e2⟩ := rat_inv q (num_ne h0)
  unfold powC
  have a1 : LB ((q.den : Int) ^ n) = LB (q⁻¹.num ^ n) := LB_abs (by
    rw [Int.natAbs_pow, Int.natAbs_pow, e1, Int.natAbs_mul, Int.natAbs_sign_of_ne_zero h0, Nat.one_mul])
  have a2 : LB (q.num ^ n) = LB ((q⁻¹.den : Int) ^ n) := LB_abs (by
    rw [Int.natAbs_pow, Int.natAbs_pow, e2, Int.natAbs_natCast])
  rw [a1, a2]
end Go.Proofs.YtpgfadkkfofhcaaGreatDoor

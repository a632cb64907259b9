/- The walk of the law DaycountOrder. -/
import Derived.Test.YtpgfadkkfofhcaaGreatDoorDcJ
import Derived.Test.YtpgfadkkfofhcaaGreatDoorDcK
namespace Go.Proofs.YtpgfadkkfofhcaaGreatDoor
open Go Go.RowKit

def P4R (y m d c : Int) (w : World) (e : Ending) (w' : World) : Prop := e = .returned (.tuple #[.int .i64 y, .int .i64 m, .int .i64 d, .int .i64 c]) ∧ Below w.heap.size w w'
theorem parts_p {y m d n : Int} (h : IsDate y m d n) (hn : n ≤ 99999) (W : World) (hW : VarF W) : Calls Tryz.prog 17 #[.int .i64 n] W (P4R y m d 0 W) :=
  (parts4_in y m d n h hn W hW.d).mono fun e w' ⟨h1, h2⟩ => ⟨h1, by subst h2; exact Below.refl _ _⟩
theorem parts_q (n : Int) : ∃ y m d c, ∀ W, VarF W → Calls Tryz.prog 17 #[.int .i64 n] W (P4R y m d c W) := by
  by_cases h : 0 ≤ n ∧ n ≤ 99999
  · obtain ⟨y, m, d, hd⟩ := isDate_of n h.1
    exact ⟨y, m, d, 0, parts_p hd h.2⟩
  · exact ⟨0, 0, 0, 2, fun W _ => (parts4_out n (by omega) W).mono fun e w' ⟨h1, h2⟩ => ⟨h1, by subst h2; exact Below.refl _ _⟩⟩

set_option maxRecDepth 100000 in
set_option maxHeartbeats 3200000 in
theorem dorder_I (r a b m t : Int) (y f : Int) (i1 i2 i3 i4 j1 j2 j3 j4 : Int) (w : World) (hv : VarF w)
    (ht : wrap64 (b + m) = t) (hm : m < 0 ∨ (0 ≤ m ∧ 99999 < m) ∨ (0 ≤ m ∧ m ≤ 99999))
    (H1 : ∀ W, VarF W → Calls Tryz.prog 12 #[] W (BolR true W))
    (H2 : ∀ W, VarF W → Calls Tryz.prog 10 #[.int .u8 r, .int .i64 a, .int .i64 b] W (DysR 0 2 W))
    (H3 : ∀ W, VarF W → Calls Tryz.prog 10 #[.int .u8 r, .int .i64 a, .int .i64 t] W (DysR y f W))
    (H4 : ∀ W, VarF W → Calls Tryz.prog 10 #[.int .u8 2, .int .i64 a, .int .i64 b] W (DysR 0 2 W))
    (H5 : ∀ W, VarF W → Calls Tryz.prog 10 #[.int .u8 4, .int .i64 a, .int .i64 b] W (DysR 0 2 W))
    (H6 : ∀ W, VarF W → Calls Tryz.prog 17 #[.int .i64 a] W (P4R i1 i2 i3 i4 W))
    (H7 : ∀ W, VarF W → Calls Tryz.prog 17 #[.int .i64 b] W (P4R j1 j2 j3 j4 W)) :
    Calls Tryz.prog 8 #[.int .u8 r, .int .i64 a, .int .i64 b, .int .i64 m] w fun e w' => e = .returned (.bool true) ∧ Below w.heap.size w w' := by
  have HV := Lib.hid hv
  have B0 := Lib.hid (Below.refl w.heap.size w)
  have C1 := Lib.hid H1
  have C2 := Lib.hid H2
  have C3 := Lib.hid H3
  have C4 := Lib.hid H4
  have C5 := Lib.hid H5
  have C6 := Lib.hid H6
  have C7 := Lib.hid H7
  clear hv H1 H2 H3 H4 H5 H6 H7
  rcases hm with hm | ⟨hm, hm2⟩ | ⟨hm, hm2⟩
  all_goals
    go_enter Tryz.func8, Tryz.ntmps8
    go_wp2_with (first
      | (go_at_call 12; ((with_reducible refine (C1.out _ (HV.out.below B0.out)).mono ?_); rintro e w1 ⟨rfl, b⟩; have B1 := Lib.hid (btE B0.out b); clear b))
      | (go_at_call 10; ((with_reducible refine (C2.out _ (HV.out.below B1.out)).mono ?_); rintro e w2 ⟨rfl, b⟩; have B2 := Lib.hid (btE B1.out b); clear b))
      | (go_at_call 10; ((with_reducible refine (C3.out _ (HV.out.below B2.out)).mono ?_); rintro e w3 ⟨rfl, b⟩; have B3 := Lib.hid (btE B2.out b); clear b))
      | (go_at_call 10; ((with_reducible refine (C4.out _ (HV.out.below B3.out)).mono ?_); rintro e w4 ⟨rfl, b⟩; have B4 := Lib.hid (btE B3.out b); clear b))
      | (go_at_call 10; ((with_reducible refine (C5.out _ (HV.out.below B4.out)).mono ?_); rintro e w5 ⟨rfl, b⟩; have B5 := Lib.hid (btE B4.out b); clear b))
      | (go_at_call 17; ((with_reducible refine (C6.out _ (HV.out.below B5.out)).mono ?_); rintro e w6 ⟨rfl, b⟩; have B6 := Lib.hid (btE B5.out b); clear b))
      | (go_at_call 17; ((with_reducible refine (C7.out _ (HV.out.below B6.out)).mono ?_); rintro e w7 ⟨rfl, b⟩; have B7 := Lib.hid (btE B6.out b); clear b)))
    go_ret
    exact ⟨ret_boolD (by simp), B7.out⟩
set_option maxRecDepth 100000 in
set_option maxHeartbeats 3200000 in
theorem dorder_P_err (r a b m t A B : Int) (y f : Int) (i1 i2 i3 i4 j1 j2 j3 j4 : Int) (w : World) (hv : VarF w)
    (ht : wrap64 (b + m) = t) (hm : m < 0 ∨ (0 ≤ m ∧ 99999 < m) ∨ (0 ≤ m ∧ m ≤ 99999)) (hba : b < a)
    (H1 : ∀ W, VarF W → Calls Tryz.prog 12 #[] W (BolR true W))
    (H2 : ∀ W, VarF W → Calls Tryz.prog 10 #[.int .u8 r, .int .i64 a, .int .i64 b] W (DysR 0 2 W))
    (H3 : ∀ W, VarF W → Calls Tryz.prog 10 #[.int .u8 r, .int .i64 a, .int .i64 t] W (DysR y f W))
    (H4 : ∀ W, VarF W → Calls Tryz.prog 10 #[.int .u8 2, .int .i64 a, .int .i64 b] W (DysR A 0 W))
    (H5 : ∀ W, VarF W → Calls Tryz.prog 10 #[.int .u8 4, .int .i64 a, .int .i64 b] W (DysR B 0 W))
    (H6 : ∀ W, VarF W → Calls Tryz.prog 17 #[.int .i64 a] W (P4R i1 i2 i3 i4 W))
    (H7 : ∀ W, VarF W → Calls Tryz.prog 17 #[.int .i64 b] W (P4R j1 j2 j3 j4 W)) :
    Calls Tryz.prog 8 #[.int .u8 r, .int .i64 a, .int .i64 b, .int .i64 m] w fun e w' => e = .returned (.bool true) ∧ Below w.heap.size w w' := by
  have HV := Lib.hid hv
  have B0 := Lib.hid (Below.refl w.heap.size w)
  have C1 := Lib.hid H1
  have C2 := Lib.hid H2
  have C3 := Lib.hid H3
  have C4 := Lib.hid H4
  have C5 := Lib.hid H5
  have C6 := Lib.hid H6
  have C7 := Lib.hid H7
  clear hv H1 H2 H3 H4 H5 H6 H7
  rcases hm with hm | ⟨hm, hm2⟩ | ⟨hm, hm2⟩
  all_goals
    go_enter Tryz.func8, Tryz.ntmps8
    go_wp2_with (first
      | (go_at_call 12; ((with_reducible refine (C1.out _ (HV.out.below B0.out)).mono ?_); rintro e w1 ⟨rfl, b⟩; have B1 := Lib.hid (btE B0.out b); clear b))
      | (go_at_call 10; ((with_reducible refine (C2.out _ (HV.out.below B1.out)).mono ?_); rintro e w2 ⟨rfl, b⟩; have B2 := Lib.hid (btE B1.out b); clear b))
      | (go_at_call 10; ((with_reducible refine (C3.out _ (HV.out.below B2.out)).mono ?_); rintro e w3 ⟨rfl, b⟩; have B3 := Lib.hid (btE B2.out b); clear b))
      | (go_at_call 10; ((with_reducible refine (C4.out _ (HV.out.below B3.out)).mono ?_); rintro e w4 ⟨rfl, b⟩; have B4 := Lib.hid (btE B3.out b); clear b))
      | (go_at_call 10; ((with_reducible refine (C5.out _ (HV.out.below B4.out)).mono ?_); rintro e w5 ⟨rfl, b⟩; have B5 := Lib.hid (btE B4.out b); clear b))
      | (go_at_call 17; ((with_reducible refine (C6.out _ (HV.out.below B5.out)).mono ?_); rintro e w6 ⟨rfl, b⟩; have B6 := Lib.hid (btE B5.out b); clear b))
      | (go_at_call 17; ((with_reducible refine (C7.out _ (HV.out.below B6.out)).mono ?_); rintro e w7 ⟨rfl, b⟩; have B7 := Lib.hid (btE B6.out b); clear b)))
    go_ret
    exact ⟨ret_boolD (by simp), B7.out⟩
set_option maxRecDepth 100000 in
set_option maxHeartbeats 3200000 in
theorem dorder_Q1_err (r a b m t A : Int) (y f : Int) (i1 i2 i3 j1 j2 : Int) (w : World) (hv : VarF w)
    (ht : wrap64 (b + m) = t) (hm : m < 0 ∨ (0 ≤ m ∧ 99999 < m) ∨ (0 ≤ m ∧ m ≤ 99999)) (hab : a ≤ b) (hd : i3 < 30) (A0 : -100000 ≤ A) (A1 : A ≤ 100000)
    (H1 : ∀ W, VarF W → Calls Tryz.prog 12 #[] W (BolR true W))
    (H2 : ∀ W, VarF W → Calls Tryz.prog 10 #[.int .u8 r, .int .i64 a, .int .i64 b] W (DysR 0 2 W))
    (H3 : ∀ W, VarF W → Calls Tryz.prog 10 #[.int .u8 r, .int .i64 a, .int .i64 t] W (DysR y f W))
    (H4 : ∀ W, VarF W → Calls Tryz.prog 10 #[.int .u8 2, .int .i64 a, .int .i64 b] W (DysR A 0 W))
    (H5 : ∀ W, VarF W → Calls Tryz.prog 10 #[.int .u8 4, .int .i64 a, .int .i64 b] W (DysR (A + 1) 0 W))
    (H6 : ∀ W, VarF W → Calls Tryz.prog 17 #[.int .i64 a] W (P4R i1 i2 i3 0 W))
    (H7 : ∀ W, VarF W → Calls Tryz.prog 17 #[.int .i64 b] W (P4R j1 j2 31 0 W)) :
    Calls Tryz.prog 8 #[.int .u8 r, .int .i64 a, .int .i64 b, .int .i64 m] w fun e w' => e = .returned (.bool true) ∧ Below w.heap.size w w' := by
  have HV := Lib.hid hv
  have B0 := Lib.hid (Below.refl w.heap.size w)
  have C1 := Lib.hid H1
  have C2 := Lib.hid H2
  have C3 := Lib.hid H3
  have C4 := Lib.hid H4
  have C5 := Lib.hid H5
  have C6 := Lib.hid H6
  have C7 := Lib.hid H7
  clear hv H1 H2 H3 H4 H5 H6 H7
  rcases hm with hm | ⟨hm, hm2⟩ | ⟨hm, hm2⟩
  all_goals
    go_enter Tryz.func8, Tryz.ntmps8
    go_wp2_with (first
      | (go_at_call 12; ((with_reducible refine (C1.out _ (HV.out.below B0.out)).mono ?_); rintro e w1 ⟨rfl, b⟩; have B1 := Lib.hid (btE B0.out b); clear b))
      | (go_at_call 10; ((with_reducible refine (C2.out _ (HV.out.below B1.out)).mono ?_); rintro e w2 ⟨rfl, b⟩; have B2 := Lib.hid (btE B1.out b); clear b))
      | (go_at_call 10; ((with_reducible refine (C3.out _ (HV.out.below B2.out)).mono ?_); rintro e w3 ⟨rfl, b⟩; have B3 := Lib.hid (btE B2.out b); clear b))
      | (go_at_call 10; ((with_reducible refine (C4.out _ (HV.out.below B3.out)).mono ?_); rintro e w4 ⟨rfl, b⟩; have B4 := Lib.hid (btE B3.out b); clear b))
      | (go_at_call 10; ((with_reducible refine (C5.out _ (HV.out.below B4.out)).mono ?_); rintro e w5 ⟨rfl, b⟩; have B5 := Lib.hid (btE B4.out b); clear b))
      | (go_at_call 17; ((with_reducible refine (C6.out _ (HV.out.below B5.out)).mono ?_); rintro e w6 ⟨rfl, b⟩; have B6 := Lib.hid (btE B5.out b); clear b))
      | (go_at_call 17; ((with_reducible refine (C7.out _ (HV.out.below B6.out)).mono ?_); rintro e w7 ⟨rfl, b⟩; have B7 := Lib.hid (btE B6.out b); clear b)))
    go_ret
    exact ⟨ret_boolD (by simp), B7.out⟩
set_option maxRecDepth 100000 in
set_option maxHeartbeats 3200000 in
theorem dorder_Q2_err (r a b m t A : Int) (y f : Int) (i1 i2 i3 j1 j2 : Int) (w : World) (hv : VarF w)
    (ht : wrap64 (b + m) = t) (hm : m < 0 ∨ (0 ≤ m ∧ 99999 < m) ∨ (0 ≤ m ∧ m ≤ 99999)) (hab : a ≤ b) (hd : 30 ≤ i3) (A0 : -100000 ≤ A) (A1 : A ≤ 100000)
    (H1 : ∀ W, VarF W → Calls Tryz.prog 12 #[] W (BolR true W))
    (H2 : ∀ W, VarF W → Calls Tryz.prog 10 #[.int .u8 r, .int .i64 a, .int .i64 b] W (DysR 0 2 W))
    (H3 : ∀ W, VarF W → Calls Tryz.prog 10 #[.int .u8 r, .int .i64 a, .int .i64 t] W (DysR y f W))
    (H4 : ∀ W, VarF W → Calls Tryz.prog 10 #[.int .u8 2, .int .i64 a, .int .i64 b] W (DysR A 0 W))
    (H5 : ∀ W, VarF W → Calls Tryz.prog 10 #[.int .u8 4, .int .i64 a, .int .i64 b] W (DysR A 0 W))
    (H6 : ∀ W, VarF W → Calls Tryz.prog 17 #[.int .i64 a] W (P4R i1 i2 i3 0 W))
    (H7 : ∀ W, VarF W → Calls Tryz.prog 17 #[.int .i64 b] W (P4R j1 j2 31 0 W)) :
    Calls Tryz.prog 8 #[.int .u8 r, .int .i64 a, .int .i64 b, .int .i64 m] w fun e w' => e = .returned (.bool true) ∧ Below w.heap.size w w' := by
  have HV := Lib.hid hv
  have B0 := Lib.hid (Below.refl w.heap.size w)
  have C1 := Lib.hid H1
  have C2 := Lib.hid H2
  have C3 := Lib.hid H3
  have C4 := Lib.hid H4
  have C5 := Lib.hid H5
  have C6 := Lib.hid H6
  have C7 := Lib.hid H7
  clear hv H1 H2 H3 H4 H5 H6 H7
  rcases hm with hm | ⟨hm, hm2⟩ | ⟨hm, hm2⟩
  all_goals
    go_enter Tryz.func8, Tryz.ntmps8
    go_wp2_with (first
      | (go_at_call 12; ((with_reducible refine (C1.out _ (HV.out.below B0.out)).mono ?_); rintro e w1 ⟨rfl, b⟩; have B1 := Lib.hid (btE B0.out b); clear b))
      | (go_at_call 10; ((with_reducible refine (C2.out _ (HV.out.below B1.out)).mono ?_); rintro e w2 ⟨rfl, b⟩; have B2 := Lib.hid (btE B1.out b); clear b))
      | (go_at_call 10; ((with_reducible refine (C3.out _ (HV.out.below B2.out)).mono ?_); rintro e w3 ⟨rfl, b⟩; have B3 := Lib.hid (btE B2.out b); clear b))
      | (go_at_call 10; ((with_reducible refine (C4.out _ (HV.out.below B3.out)).mono ?_); rintro e w4 ⟨rfl, b⟩; have B4 := Lib.hid (btE B3.out b); clear b))
      | (go_at_call 10; ((with_reducible refine (C5.out _ (HV.out.below B4.out)).mono ?_); rintro e w5 ⟨rfl, b⟩; have B5 := Lib.hid (btE B4.out b); clear b))
      | (go_at_call 17; ((with_reducible refine (C6.out _ (HV.out.below B5.out)).mono ?_); rintro e w6 ⟨rfl, b⟩; have B6 := Lib.hid (btE B5.out b); clear b))
      | (go_at_call 17; ((with_reducible refine (C7.out _ (HV.out.below B6.out)).mono ?_); rintro e w7 ⟨rfl, b⟩; have B7 := Lib.hid (btE B6.out b); clear b)))
    go_ret
    exact ⟨ret_boolD (by simp), B7.out⟩
set_option maxRecDepth 100000 in
set_option maxHeartbeats 3200000 in
theorem dorder_Q3_err (r a b m t A : Int) (y f : Int) (i1 i2 i3 j1 j2 j3 : Int) (w : World) (hv : VarF w)
    (ht : wrap64 (b + m) = t) (hm : m < 0 ∨ (0 ≤ m ∧ 99999 < m) ∨ (0 ≤ m ∧ m ≤ 99999)) (hab : a ≤ b) (hr : (j3 == 31) = false) (A0 : -100000 ≤ A) (A1 : A ≤ 100000)
    (H1 : ∀ W, VarF W → Calls Tryz.prog 12 #[] W (BolR true W))
    (H2 : ∀ W, VarF W → Calls Tryz.prog 10 #[.int .u8 r, .int .i64 a, .int .i64 b] W (DysR 0 2 W))
    (H3 : ∀ W, VarF W → Calls Tryz.prog 10 #[.int .u8 r, .int .i64 a, .int .i64 t] W (DysR y f W))
    (H4 : ∀ W, VarF W → Calls Tryz.prog 10 #[.int .u8 2, .int .i64 a, .int .i64 b] W (DysR A 0 W))
    (H5 : ∀ W, VarF W → Calls Tryz.prog 10 #[.int .u8 4, .int .i64 a, .int .i64 b] W (DysR A 0 W))
    (H6 : ∀ W, VarF W → Calls Tryz.prog 17 #[.int .i64 a] W (P4R i1 i2 i3 0 W))
    (H7 : ∀ W, VarF W → Calls Tryz.prog 17 #[.int .i64 b] W (P4R j1 j2 j3 0 W)) :
    Calls Tryz.prog 8 #[.int .u8 r, .int .i64 a, .int .i64 b, .int .i64 m] w fun e w' => e = .returned (.bool true) ∧ Below w.heap.size w w' := by
  have HV := Lib.hid hv
  have B0 := Lib.hid (Below.refl w.heap.size w)
  have C1 := Lib.hid H1
  have C2 := Lib.hid H2
  have C3 := Lib.hid H3
  have C4 := Lib.hid H4
  have C5 := Lib.hid H5
  have C6 := Lib.hid H6
  have C7 := Lib.hid H7
  clear hv H1 H2 H3 H4 H5 H6 H7
  rcases hm with hm | ⟨hm, hm2⟩ | ⟨hm, hm2⟩
  all_goals
    go_enter Tryz.func8, Tryz.ntmps8
    go_wp2_with (first
      | (go_at_call 12; ((with_reducible refine (C1.out _ (HV.out.below B0.out)).mono ?_); rintro e w1 ⟨rfl, b⟩; have B1 := Lib.hid (btE B0.out b); clear b))
      | (go_at_call 10; ((with_reducible refine (C2.out _ (HV.out.below B1.out)).mono ?_); rintro e w2 ⟨rfl, b⟩; have B2 := Lib.hid (btE B1.out b); clear b))
      | (go_at_call 10; ((with_reducible refine (C3.out _ (HV.out.below B2.out)).mono ?_); rintro e w3 ⟨rfl, b⟩; have B3 := Lib.hid (btE B2.out b); clear b))
      | (go_at_call 10; ((with_reducible refine (C4.out _ (HV.out.below B3.out)).mono ?_); rintro e w4 ⟨rfl, b⟩; have B4 := Lib.hid (btE B3.out b); clear b))
      | (go_at_call 10; ((with_reducible refine (C5.out _ (HV.out.below B4.out)).mono ?_); rintro e w5 ⟨rfl, b⟩; have B5 := Lib.hid (btE B4.out b); clear b))
      | (go_at_call 17; ((with_reducible refine (C6.out _ (HV.out.below B5.out)).mono ?_); rintro e w6 ⟨rfl, b⟩; have B6 := Lib.hid (btE B5.out b); clear b))
      | (go_at_call 17; ((with_reducible refine (C7.out _ (HV.out.below B6.out)).mono ?_); rintro e w7 ⟨rfl, b⟩; have B7 := Lib.hid (btE B6.out b); clear b)))
    go_ret
    exact ⟨ret_boolD (by simp), B7.out⟩
set_option maxRecDepth 100000 in
set_option maxHeartbeats 3200000 in
theorem dorder_P_out (r a b m t A B : Int) (x y f : Int) (i1 i2 i3 i4 j1 j2 j3 j4 : Int) (w : World) (hv : VarF w)
    (ht : wrap64 (b + m) = t) (hm : m < 0 ∨ (0 ≤ m ∧ 99999 < m)) (hba : b < a)
    (H1 : ∀ W, VarF W → Calls Tryz.prog 12 #[] W (BolR true W))
    (H2 : ∀ W, VarF W → Calls Tryz.prog 10 #[.int .u8 r, .int .i64 a, .int .i64 b] W (DysR x 0 W))
    (H3 : ∀ W, VarF W → Calls Tryz.prog 10 #[.int .u8 r, .int .i64 a, .int .i64 t] W (DysR y f W))
    (H4 : ∀ W, VarF W → Calls Tryz.prog 10 #[.int .u8 2, .int .i64 a, .int .i64 b] W (DysR A 0 W))
    (H5 : ∀ W, VarF W → Calls Tryz.prog 10 #[.int .u8 4, .int .i64 a, .int .i64 b] W (DysR B 0 W))
    (H6 : ∀ W, VarF W → Calls Tryz.prog 17 #[.int .i64 a] W (P4R i1 i2 i3 i4 W))
    (H7 : ∀ W, VarF W → Calls Tryz.prog 17 #[.int .i64 b] W (P4R j1 j2 j3 j4 W)) :
    Calls Tryz.prog 8 #[.int .u8 r, .int .i64 a, .int .i64 b, .int .i64 m] w fun e w' => e = .returned (.bool true) ∧ Below w.heap.size w w' := by
  have HV := Lib.hid hv
  have B0 := Lib.hid (Below.refl w.heap.size w)
  have C1 := Lib.hid H1
  have C2 := Lib.hid H2
  have C3 := Lib.hid H3
  have C4 := Lib.hid H4
  have C5 := Lib.hid H5
  have C6 := Lib.hid H6
  have C7 := Lib.hid H7
  clear hv H1 H2 H3 H4 H5 H6 H7
  rcases hm with hm | ⟨hm, hm2⟩
  all_goals
    go_enter Tryz.func8, Tryz.ntmps8
    go_wp2_with (first
      | (go_at_call 12; ((with_reducible refine (C1.out _ (HV.out.below B0.out)).mono ?_); rintro e w1 ⟨rfl, b⟩; have B1 := Lib.hid (btE B0.out b); clear b))
      | (go_at_call 10; ((with_reducible refine (C2.out _ (HV.out.below B1.out)).mono ?_); rintro e w2 ⟨rfl, b⟩; have B2 := Lib.hid (btE B1.out b); clear b))
      | (go_at_call 10; ((with_reducible refine (C3.out _ (HV.out.below B2.out)).mono ?_); rintro e w3 ⟨rfl, b⟩; have B3 := Lib.hid (btE B2.out b); clear b))
      | (go_at_call 10; ((with_reducible refine (C4.out _ (HV.out.below B3.out)).mono ?_); rintro e w4 ⟨rfl, b⟩; have B4 := Lib.hid (btE B3.out b); clear b))
      | (go_at_call 10; ((with_reducible refine (C5.out _ (HV.out.below B4.out)).mono ?_); rintro e w5 ⟨rfl, b⟩; have B5 := Lib.hid (btE B4.out b); clear b))
      | (go_at_call 17; ((with_reducible refine (C6.out _ (HV.out.below B5.out)).mono ?_); rintro e w6 ⟨rfl, b⟩; have B6 := Lib.hid (btE B5.out b); clear b))
      | (go_at_call 17; ((with_reducible refine (C7.out _ (HV.out.below B6.out)).mono ?_); rintro e w7 ⟨rfl, b⟩; have B7 := Lib.hid (btE B6.out b); clear b)))
    go_ret
    exact ⟨ret_boolD (by simp), B7.out⟩
set_option maxRecDepth 100000 in
set_option maxHeartbeats 3200000 in
theorem dorder_Q1_out (r a b m t A : Int) (x y f : Int) (i1 i2 i3 j1 j2 : Int) (w : World) (hv : VarF w)
    (ht : wrap64 (b + m) = t) (hm : m < 0 ∨ (0 ≤ m ∧ 99999 < m)) (hab : a ≤ b) (hd : i3 < 30) (A0 : -100000 ≤ A) (A1 : A ≤ 100000)
    (H1 : ∀ W, VarF W → Calls Tryz.prog 12 #[] W (BolR true W))
    (H2 : ∀ W, VarF W → Calls Tryz.prog 10 #[.int .u8 r, .int .i64 a, .int .i64 b] W (DysR x 0 W))
    (H3 : ∀ W, VarF W → Calls Tryz.prog 10 #[.int .u8 r, .int .i64 a, .int .i64 t] W (DysR y f W))
    (H4 : ∀ W, VarF W → Calls Tryz.prog 10 #[.int .u8 2, .int .i64 a, .int .i64 b] W (DysR A 0 W))
    (H5 : ∀ W, VarF W → Calls Tryz.prog 10 #[.int .u8 4, .int .i64 a, .int .i64 b] W (DysR (A + 1) 0 W))
    (H6 : ∀ W, VarF W → Calls Tryz.prog 17 #[.int .i64 a] W (P4R i1 i2 i3 0 W))
    (H7 : ∀ W, VarF W → Calls Tryz.prog 17 #[.int .i64 b] W (P4R j1 j2 31 0 W)) :
    Calls Tryz.prog 8 #[.int .u8 r, .int .i64 a, .int .i64 b, .int .i64 m] w fun e w' => e = .returned (.bool true) ∧ Below w.heap.size w w' := by
  have HV := Lib.hid hv
  have B0 := Lib.hid (Below.refl w.heap.size w)
  have C1 := Lib.hid H1
  have C2 := Lib.hid H2
  have C3 := Lib.hid H3
  have C4 := Lib.hid H4
  have C5 := Lib.hid H5
  have C6 := Lib.hid H6
  have C7 := Lib.hid H7
  clear hv H1 H2 H3 H4 H5 H6 H7
  rcases hm with hm | ⟨hm, hm2⟩
  all_goals
    go_enter Tryz.func8, Tryz.ntmps8
    go_wp2_with (first
      | (go_at_call 12; ((with_reducible refine (C1.out _ (HV.out.below B0.out)).mono ?_); rintro e w1 ⟨rfl, b⟩; have B1 := Lib.hid (btE B0.out b); clear b))
      | (go_at_call 10; ((with_reducible refine (C2.out _ (HV.out.below B1.out)).mono ?_); rintro e w2 ⟨rfl, b⟩; have B2 := Lib.hid (btE B1.out b); clear b))
      | (go_at_call 10; ((with_reducible refine (C3.out _ (HV.out.below B2.out)).mono ?_); rintro e w3 ⟨rfl, b⟩; have B3 := Lib.hid (btE B2.out b); clear b))
      | (go_at_call 10; ((with_reducible refine (C4.out _ (HV.out.below B3.out)).mono ?_); rintro e w4 ⟨rfl, b⟩; have B4 := Lib.hid (btE B3.out b); clear b))
      | (go_at_call 10; ((with_reducible refine (C5.out _ (HV.out.below B4.out)).mono ?_); rintro e w5 ⟨rfl, b⟩; have B5 := Lib.hid (btE B4.out b); clear b))
      | (go_at_call 17; ((with_reducible refine (C6.out _ (HV.out.below B5.out)).mono ?_); rintro e w6 ⟨rfl, b⟩; have B6 := Lib.hid (btE B5.out b); clear b))
      | (go_at_call 17; ((with_reducible refine (C7.out _ (HV.out.below B6.out)).mono ?_); rintro e w7 ⟨rfl, b⟩; have B7 := Lib.hid (btE B6.out b); clear b)))
    go_ret
    exact ⟨ret_boolD (by simp), B7.out⟩
set_option maxRecDepth 100000 in
set_option maxHeartbeats 3200000 in
theorem dorder_Q2_out (r a b m t A : Int) (x y f : Int) (i1 i2 i3 j1 j2 : Int) (w : World) (hv : VarF w)
    (ht : wrap64 (b + m) = t) (hm : m < 0 ∨ (0 ≤ m ∧ 99999 < m)) (hab : a ≤ b) (hd : 30 ≤ i3) (A0 : -100000 ≤ A) (A1 : A ≤ 100000)
    (H1 : ∀ W, VarF W → Calls Tryz.prog 12 #[] W (BolR true W))
    (H2 : ∀ W, VarF W → Calls Tryz.prog 10 #[.int .u8 r, .int .i64 a, .int .i64 b] W (DysR x 0 W))
    (H3 : ∀ W, VarF W → Calls Tryz.prog 10 #[.int .u8 r, .int .i64 a, .int .i64 t] W (DysR y f W))
    (H4 : ∀ W, VarF W → Calls Tryz.prog 10 #[.int .u8 2, .int .i64 a, .int .i64 b] W (DysR A 0 W))
    (H5 : ∀ W, VarF W → Calls Tryz.prog 10 #[.int .u8 4, .int .i64 a, .int .i64 b] W (DysR A 0 W))
    (H6 : ∀ W, VarF W → Calls Tryz.prog 17 #[.int .i64 a] W (P4R i1 i2 i3 0 W))
    (H7 : ∀ W, VarF W → Calls Tryz.prog 17 #[.int .i64 b] W (P4R j1 j2 31 0 W)) :
    Calls Tryz.prog 8 #[.int .u8 r, .int .i64 a, .int .i64 b, .int .i64 m] w fun e w' => e = .returned (.bool true) ∧ Below w.heap.size w w' := by
  have HV := Lib.hid hv
  have B0 := Lib.hid (Below.refl w.heap.size w)
  have C1 := Lib.hid H1
  have C2 := Lib.hid H2
  have C3 := Lib.hid H3
  have C4 := Lib.hid H4
  have C5 := Lib.hid H5
  have C6 := Lib.hid H6
  have C7 := Lib.hid H7
  clear hv H1 H2 H3 H4 H5 H6 H7
  rcases hm with hm | ⟨hm, hm2⟩
  all_goals
    go_enter Tryz.func8, Tryz.ntmps8
    go_wp2_with (first
      | (go_at_call 12; ((with_reducible refine (C1.out _ (HV.out.below B0.out)).mono ?_); rintro e w1 ⟨rfl, b⟩; have B1 := Lib.hid (btE B0.out b); clear b))
      | (go_at_call 10; ((with_reducible refine (C2.out _ (HV.out.below B1.out)).mono ?_); rintro e w2 ⟨rfl, b⟩; have B2 := Lib.hid (btE B1.out b); clear b))
      | (go_at_call 10; ((with_reducible refine (C3.out _ (HV.out.below B2.out)).mono ?_); rintro e w3 ⟨rfl, b⟩; have B3 := Lib.hid (btE B2.out b); clear b))
      | (go_at_call 10; ((with_reducible refine (C4.out _ (HV.out.below B3.out)).mono ?_); rintro e w4 ⟨rfl, b⟩; have B4 := Lib.hid (btE B3.out b); clear b))
      | (go_at_call 10; ((with_reducible refine (C5.out _ (HV.out.below B4.out)).mono ?_); rintro e w5 ⟨rfl, b⟩; have B5 := Lib.hid (btE B4.out b); clear b))
      | (go_at_call 17; ((with_reducible refine (C6.out _ (HV.out.below B5.out)).mono ?_); rintro e w6 ⟨rfl, b⟩; have B6 := Lib.hid (btE B5.out b); clear b))
      | (go_at_call 17; ((with_reducible refine (C7.out _ (HV.out.below B6.out)).mono ?_); rintro e w7 ⟨rfl, b⟩; have B7 := Lib.hid (btE B6.out b); clear b)))
    go_ret
    exact ⟨ret_boolD (by simp), B7.out⟩
set_option maxRecDepth 100000 in
set_option maxHeartbeats 3200000 in
theorem dorder_Q3_out (r a b m t A : Int) (x y f : Int) (i1 i2 i3 j1 j2 j3 : Int) (w : World) (hv : VarF w)
    (ht : wrap64 (b + m) = t) (hm : m < 0 ∨ (0 ≤ m ∧ 99999 < m)) (hab : a ≤ b) (hr : (j3 == 31) = false) (A0 : -100000 ≤ A) (A1 : A ≤ 100000)
    (H1 : ∀ W, VarF W → Calls Tryz.prog 12 #[] W (BolR true W))
    (H2 : ∀ W, VarF W → Calls Tryz.prog 10 #[.int .u8 r, .int .i64 a, .int .i64 b] W (DysR x 0 W))
    (H3 : ∀ W, VarF W → Calls Tryz.prog 10 #[.int .u8 r, .int .i64 a, .int .i64 t] W (DysR y f W))
    (H4 : ∀ W, VarF W → Calls Tryz.prog 10 #[.int .u8 2, .int .i64 a, .int .i64 b] W (DysR A 0 W))
    (H5 : ∀ W, VarF W → Calls Tryz.prog 10 #[.int .u8 4, .int .i64 a, .int .i64 b] W (DysR A 0 W))
    (H6 : ∀ W, VarF W → Calls Tryz.prog 17 #[.int .i64 a] W (P4R i1 i2 i3 0 W))
    (H7 : ∀ W, VarF W → Calls Tryz.prog 17 #[.int .i64 b] W (P4R j1 j2 j3 0 W)) :
    Calls Tryz.prog 8 #[.int .u8 r, .int .i64 a, .int .i64 b, .int .i64 m] w fun e w' => e = .returned (.bool true) ∧ Below w.heap.size w w' := by
  have HV := Lib.hid hv
  have B0 := Lib.hid (Below.refl w.heap.size w)
  have C1 := Lib.hid H1
  have C2 := Lib.hid H2
  have C3 := Lib.hid H3
  have C4 := Lib.hid H4
  have C5 := Lib.hid H5
  have C6 := Lib.hid H6
  have C7 := Lib.hid H7
  clear hv H1 H2 H3 H4 H5 H6 H7
  rcases hm with hm | ⟨hm, hm2⟩
  all_goals
    go_enter Tryz.func8, Tryz.ntmps8
    go_wp2_with (first
      | (go_at_call 12; ((with_reducible refine (C1.out _ (HV.out.below B0.out)).mono ?_); rintro e w1 ⟨rfl, b⟩; have B1 := Lib.hid (btE B0.out b); clear b))
      | (go_at_call 10; ((with_reducible refine (C2.out _ (HV.out.below B1.out)).mono ?_); rintro e w2 ⟨rfl, b⟩; have B2 := Lib.hid (btE B1.out b); clear b))
      | (go_at_call 10; ((with_reducible refine (C3.out _ (HV.out.below B2.out)).mono ?_); rintro e w3 ⟨rfl, b⟩; have B3 := Lib.hid (btE B2.out b); clear b))
      | (go_at_call 10; ((with_reducible refine (C4.out _ (HV.out.below B3.out)).mono ?_); rintro e w4 ⟨rfl, b⟩; have B4 := Lib.hid (btE B3.out b); clear b))
      | (go_at_call 10; ((with_reducible refine (C5.out _ (HV.out.below B4.out)).mono ?_); rintro e w5 ⟨rfl, b⟩; have B5 := Lib.hid (btE B4.out b); clear b))
      | (go_at_call 17; ((with_reducible refine (C6.out _ (HV.out.below B5.out)).mono ?_); rintro e w6 ⟨rfl, b⟩; have B6 := Lib.hid (btE B5.out b); clear b))
      | (go_at_call 17; ((with_reducible refine (C7.out _ (HV.out.below B6.out)).mono ?_); rintro e w7 ⟨rfl, b⟩; have B7 := Lib.hid (btE B6.out b); clear b)))
    go_ret
    exact ⟨ret_boolD (by simp), B7.out⟩
set_option maxRecDepth 100000 in
set_option maxHeartbeats 3200000 in
theorem dorder_P_far (r a b m t A B : Int) (x : Int) (i1 i2 i3 i4 j1 j2 j3 j4 : Int) (w : World) (hv : VarF w)
    (ht : wrap64 (b + m) = t) (hm : 0 ≤ m) (hm2 : m ≤ 99999) (hba : b < a)
    (H1 : ∀ W, VarF W → Calls Tryz.prog 12 #[] W (BolR true W))
    (H2 : ∀ W, VarF W → Calls Tryz.prog 10 #[.int .u8 r, .int .i64 a, .int .i64 b] W (DysR x 0 W))
    (H3 : ∀ W, VarF W → Calls Tryz.prog 10 #[.int .u8 r, .int .i64 a, .int .i64 t] W (DysR 0 2 W))
    (H4 : ∀ W, VarF W → Calls Tryz.prog 10 #[.int .u8 2, .int .i64 a, .int .i64 b] W (DysR A 0 W))
    (H5 : ∀ W, VarF W → Calls Tryz.prog 10 #[.int .u8 4, .int .i64 a, .int .i64 b] W (DysR B 0 W))
    (H6 : ∀ W, VarF W → Calls Tryz.prog 17 #[.int .i64 a] W (P4R i1 i2 i3 i4 W))
    (H7 : ∀ W, VarF W → Calls Tryz.prog 17 #[.int .i64 b] W (P4R j1 j2 j3 j4 W)) :
    Calls Tryz.prog 8 #[.int .u8 r, .int .i64 a, .int .i64 b, .int .i64 m] w fun e w' => e = .returned (.bool true) ∧ Below w.heap.size w w' := by
  have HV := Lib.hid hv
  have B0 := Lib.hid (Below.refl w.heap.size w)
  have C1 := Lib.hid H1
  have C2 := Lib.hid H2
  have C3 := Lib.hid H3
  have C4 := Lib.hid H4
  have C5 := Lib.hid H5
  have C6 := Lib.hid H6
  have C7 := Lib.hid H7
  clear hv H1 H2 H3 H4 H5 H6 H7
  go_enter Tryz.func8, Tryz.ntmps8
  go_wp2_with (first
    | (go_at_call 12; ((with_reducible refine (C1.out _ (HV.out.below B0.out)).mono ?_); rintro e w1 ⟨rfl, b⟩; have B1 := Lib.hid (btE B0.out b); clear b))
    | (go_at_call 10; ((with_reducible refine (C2.out _ (HV.out.below B1.out)).mono ?_); rintro e w2 ⟨rfl, b⟩; have B2 := Lib.hid (btE B1.out b); clear b))
    | (go_at_call 10; ((with_reducible refine (C3.out _ (HV.out.below B2.out)).mono ?_); rintro e w3 ⟨rfl, b⟩; have B3 := Lib.hid (btE B2.out b); clear b))
    | (go_at_call 10; ((with_reducible refine (C4.out _ (HV.out.below B3.out)).mono ?_); rintro e w4 ⟨rfl, b⟩; have B4 := Lib.hid (btE B3.out b); clear b))
    | (go_at_call 10; ((with_reducible refine (C5.out _ (HV.out.below B4.out)).mono ?_); rintro e w5 ⟨rfl, b⟩; have B5 := Lib.hid (btE B4.out b); clear b))
    | (go_at_call 17; ((with_reducible refine (C6.out _ (HV.out.below B5.out)).mono ?_); rintro e w6 ⟨rfl, b⟩; have B6 := Lib.hid (btE B5.out b); clear b))
    | (go_at_call 17; ((with_reducible refine (C7.out _ (HV.out.below B6.out)).mono ?_); rintro e w7 ⟨rfl, b⟩; have B7 := Lib.hid (btE B6.out b); clear b)))
  go_ret
  exact ⟨ret_boolD (by simp), B7.out⟩
set_option maxRecDepth 100000 in
set_option maxHeartbeats 3200000 in
theorem dorder_Q1_far (r a b m t A : Int) (x : Int) (i1 i2 i3 j1 j2 : Int) (w : World) (hv : VarF w)
    (ht : wrap64 (b + m) = t) (hm : 0 ≤ m) (hm2 : m ≤ 99999) (hab : a ≤ b) (hd : i3 < 30) (A0 : -100000 ≤ A) (A1 : A ≤ 100000)
    (H1 : ∀ W, VarF W → Calls Tryz.prog 12 #[] W (BolR true W))
    (H2 : ∀ W, VarF W → Calls Tryz.prog 10 #[.int .u8 r, .int .i64 a, .int .i64 b] W (DysR x 0 W))
    (H3 : ∀ W, VarF W → Calls Tryz.prog 10 #[.int .u8 r, .int .i64 a, .int .i64 t] W (DysR 0 2 W))
    (H4 : ∀ W, VarF W → Calls Tryz.prog 10 #[.int .u8 2, .int .i64 a, .int .i64 b] W (DysR A 0 W))
    (H5 : ∀ W, VarF W → Calls Tryz.prog 10 #[.int .u8 4, .int .i64 a, .int .i64 b] W (DysR (A + 1) 0 W))
    (H6 : ∀ W, VarF W → Calls Tryz.prog 17 #[.int .i64 a] W (P4R i1 i2 i3 0 W))
    (H7 : ∀ W, VarF W → Calls Tryz.prog 17 #[.int .i64 b] W (P4R j1 j2 31 0 W)) :
    Calls Tryz.prog 8 #[.int .u8 r, .int .i64 a, .int .i64 b, .int .i64 m] w fun e w' => e = .returned (.bool true) ∧ Below w.heap.size w w' := by
  have HV := Lib.hid hv
  have B0 := Lib.hid (Below.refl w.heap.size w)
  have C1 := Lib.hid H1
  have C2 := Lib.hid H2
  have C3 := Lib.hid H3
  have C4 := Lib.hid H4
  have C5 := Lib.hid H5
  have C6 := Lib.hid H6
  have C7 := Lib.hid H7
  clear hv H1 H2 H3 H4 H5 H6 H7
  go_enter Tryz.func8, Tryz.ntmps8
  go_wp2_with (first
    | (go_at_call 12; ((with_reducible refine (C1.out _ (HV.out.below B0.out)).mono ?_); rintro e w1 ⟨rfl, b⟩; have B1 := Lib.hid (btE B0.out b); clear b))
    | (go_at_call 10; ((with_reducible refine (C2.out _ (HV.out.below B1.out)).mono ?_); rintro e w2 ⟨rfl, b⟩; have B2 := Lib.hid (btE B1.out b); clear b))
    | (go_at_call 10; ((with_reducible refine (C3.out _ (HV.out.below B2.out)).mono ?_); rintro e w3 ⟨rfl, b⟩; have B3 := Lib.hid (btE B2.out b); clear b))
    | (go_at_call 10; ((with_reducible refine (C4.out _ (HV.out.below B3.out)).mono ?_); rintro e w4 ⟨rfl, b⟩; have B4 := Lib.hid (btE B3.out b); clear b))
    | (go_at_call 10; ((with_reducible refine (C5.out _ (HV.out.below B4.out)).mono ?_); rintro e w5 ⟨rfl, b⟩; have B5 := Lib.hid (btE B4.out b); clear b))
    | (go_at_call 17; ((with_reducible refine (C6.out _ (HV.out.below B5.out)).mono ?_); rintro e w6 ⟨rfl, b⟩; have B6 := Lib.hid (btE B5.out b); clear b))
    | (go_at_call 17; ((with_reducible refine (C7.out _ (HV.out.below B6.out)).mono ?_); rintro e w7 ⟨rfl, b⟩; have B7 := Lib.hid (btE B6.out b); clear b)))
  go_ret
  exact ⟨ret_boolD (by simp), B7.out⟩
set_option maxRecDepth 100000 in
set_option maxHeartbeats 3200000 in
theorem dorder_Q2_far (r a b m t A : Int) (x : Int) (i1 i2 i3 j1 j2 : Int) (w : World) (hv : VarF w)
    (ht : wrap64 (b + m) = t) (hm : 0 ≤ m) (hm2 : m ≤ 99999) (hab : a ≤ b) (hd : 30 ≤ i3) (A0 : -100000 ≤ A) (A1 : A ≤ 100000)
    (H1 : ∀ W, VarF W → Calls Tryz.prog 12 #[] W (BolR true W))
    (H2 : ∀ W, VarF W → Calls Tryz.prog 10 #[.int .u8 r, .int .i64 a, .int .i64 b] W (DysR x 0 W))
    (H3 : ∀ W, VarF W → Calls Tryz.prog 10 #[.int .u8 r, .int .i64 a, .int .i64 t] W (DysR 0 2 W))
    (H4 : ∀ W, VarF W → Calls Tryz.prog 10 #[.int .u8 2, .int .i64 a, .int .i64 b] W (DysR A 0 W))
    (H5 : ∀ W, VarF W → Calls Tryz.prog 10 #[.int .u8 4, .int .i64 a, .int .i64 b] W (DysR A 0 W))
    (H6 : ∀ W, VarF W → Calls Tryz.prog 17 #[.int .i64 a] W (P4R i1 i2 i3 0 W))
    (H7 : ∀ W, VarF W → Calls Tryz.prog 17 #[.int .i64 b] W (P4R j1 j2 31 0 W)) :
    Calls Tryz.prog 8 #[.int .u8 r, .int .i64 a, .int .i64 b, .int .i64 m] w fun e w' => e = .returned (.bool true) ∧ Below w.heap.size w w' := by
  have HV := Lib.hid hv
  have B0 := Lib.hid (Below.refl w.heap.size w)
  have C1 := Lib.hid H1
  have C2 := Lib.hid H2
  have C3 := Lib.hid H3
  have C4 := Lib.hid H4
  have C5 := Lib.hid H5
  have C6 := Lib.hid H6
  have C7 := Lib.hid H7
  clear hv H1 H2 H3 H4 H5 H6 H7
  go_enter Tryz.func8, Tryz.ntmps8
  go_wp2_with (first
    | (go_at_call 12; ((with_reducible refine (C1.out _ (HV.out.below B0.out)).mono ?_); rintro e w1 ⟨rfl, b⟩; have B1 := Lib.hid (btE B0.out b); clear b))
    | (go_at_call 10; ((with_reducible refine (C2.out _ (HV.out.below B1.out)).mono ?_); rintro e w2 ⟨rfl, b⟩; have B2 := Lib.hid (btE B1.out b); clear b))
    | (go_at_call 10; ((with_reducible refine (C3.out _ (HV.out.below B2.out)).mono ?_); rintro e w3 ⟨rfl, b⟩; have B3 := Lib.hid (btE B2.out b); clear b))
    | (go_at_call 10; ((with_reducible refine (C4.out _ (HV.out.below B3.out)).mono ?_); rintro e w4 ⟨rfl, b⟩; have B4 := Lib.hid (btE B3.out b); clear b))
    | (go_at_call 10; ((with_reducible refine (C5.out _ (HV.out.below B4.out)).mono ?_); rintro e w5 ⟨rfl, b⟩; have B5 := Lib.hid (btE B4.out b); clear b))
    | (go_at_call 17; ((with_reducible refine (C6.out _ (HV.out.below B5.out)).mono ?_); rintro e w6 ⟨rfl, b⟩; have B6 := Lib.hid (btE B5.out b); clear b))
    | (go_at_call 17; ((with_reducible refine (C7.out _ (HV.out.below B6.out)).mono ?_); rintro e w7 ⟨rfl, b⟩; have B7 := Lib.hid (btE B6.out b); clear b)))
  go_ret
  exact ⟨ret_boolD (by simp), B7.out⟩
set_option maxRecDepth 100000 in
set_option maxHeartbeats 3200000 in
theorem dorder_Q3_far (r a b m t A : Int) (x : Int) (i1 i2 i3 j1 j2 j3 : Int) (w : World) (hv : VarF w)
    (ht : wrap64 (b + m) = t) (hm : 0 ≤ m) (hm2 : m ≤ 99999) (hab : a ≤ b) (hr : (j3 == 31) = false) (A0 : -100000 ≤ A) (A1 : A ≤ 100000)
    (H1 : ∀ W, VarF W → Calls Tryz.prog 12 #[] W (BolR true W))
    (H2 : ∀ W, VarF W → Calls Tryz.prog 10 #[.int .u8 r, .int .i64 a, .int .i64 b] W (DysR x 0 W))
    (H3 : ∀ W, VarF W → Calls Tryz.prog 10 #[.int .u8 r, .int .i64 a, .int .i64 t] W (DysR 0 2 W))
    (H4 : ∀ W, VarF W → Calls Tryz.prog 10 #[.int .u8 2, .int .i64 a, .int .i64 b] W (DysR A 0 W))
    (H5 : ∀ W, VarF W → Calls Tryz.prog 10 #[.int .u8 4, .int .i64 a, .int .i64 b] W (DysR A 0 W))
    (H6 : ∀ W, VarF W → Calls Tryz.prog 17 #[.int .i64 a] W (P4R i1 i2 i3 0 W))
    (H7 : ∀ W, VarF W → Calls Tryz.prog 17 #[.int .i64 b] W (P4R j1 j2 j3 0 W)) :
    Calls Tryz.prog 8 #[.int .u8 r, .int .i64 a, .int .i64 b, .int .i64 m] w fun e w' => e = .returned (.bool true) ∧ Below w.heap.size w w' := by
  have HV := Lib.hid hv
  have B0 := Lib.hid (Below.refl w.heap.size w)
  have C1 := Lib.hid H1
  have C2 := Lib.hid H2
  have C3 := Lib.hid H3
  have C4 := Lib.hid H4
  have C5 := Lib.hid H5
  have C6 := Lib.hid H6
  have C7 := Lib.hid H7
  clear hv H1 H2 H3 H4 H5 H6 H7
  go_enter Tryz.func8, Tryz.ntmps8
  go_wp2_with (first
    | (go_at_call 12; ((with_reducible refine (C1.out _ (HV.out.below B0.out)).mono ?_); rintro e w1 ⟨rfl, b⟩; have B1 := Lib.hid (btE B0.out b); clear b))
    | (go_at_call 10; ((with_reducible refine (C2.out _ (HV.out.below B1.out)).mono ?_); rintro e w2 ⟨rfl, b⟩; have B2 := Lib.hid (btE B1.out b); clear b))
    | (go_at_call 10; ((with_reducible refine (C3.out _ (HV.out.below B2.out)).mono ?_); rintro e w3 ⟨rfl, b⟩; have B3 := Lib.hid (btE B2.out b); clear b))
    | (go_at_call 10; ((with_reducible refine (C4.out _ (HV.out.below B3.out)).mono ?_); rintro e w4 ⟨rfl, b⟩; have B4 := Lib.hid (btE B3.out b); clear b))
    | (go_at_call 10; ((with_reducible refine (C5.out _ (HV.out.below B4.out)).mono ?_); rintro e w5 ⟨rfl, b⟩; have B5 := Lib.hid (btE B4.out b); clear b))
    | (go_at_call 17; ((with_reducible refine (C6.out _ (HV.out.below B5.out)).mono ?_); rintro e w6 ⟨rfl, b⟩; have B6 := Lib.hid (btE B5.out b); clear b))
    | (go_at_call 17; ((with_reducible refine (C7.out _ (HV.out.below B6.out)).mono ?_); rintro e w7 ⟨rfl, b⟩; have B7 := Lib.hid (btE B6.out b); clear b)))
  go_ret
  exact ⟨ret_boolD (by simp), B7.out⟩
set_option maxRecDepth 100000 in
set_option maxHeartbeats 3200000 in
theorem dorder_P_le (r a b m t A B : Int) (x y : Int) (i1 i2 i3 i4 j1 j2 j3 j4 : Int) (w : World) (hv : VarF w)
    (ht : wrap64 (b + m) = t) (hm : 0 ≤ m) (hm2 : m ≤ 99999) (hba : b < a)
    (H1 : ∀ W, VarF W → Calls Tryz.prog 12 #[] W (BolR true W))
    (H2 : ∀ W, VarF W → Calls Tryz.prog 10 #[.int .u8 r, .int .i64 a, .int .i64 b] W (DysR x 0 W))
    (H3 : ∀ W, VarF W → Calls Tryz.prog 10 #[.int .u8 r, .int .i64 a, .int .i64 t] W (DysR y 0 W))
    (H4 : ∀ W, VarF W → Calls Tryz.prog 10 #[.int .u8 2, .int .i64 a, .int .i64 b] W (DysR A 0 W))
    (H5 : ∀ W, VarF W → Calls Tryz.prog 10 #[.int .u8 4, .int .i64 a, .int .i64 b] W (DysR B 0 W))
    (H6 : ∀ W, VarF W → Calls Tryz.prog 17 #[.int .i64 a] W (P4R i1 i2 i3 i4 W))
    (H7 : ∀ W, VarF W → Calls Tryz.prog 17 #[.int .i64 b] W (P4R j1 j2 j3 j4 W)) :
    Calls Tryz.prog 8 #[.int .u8 r, .int .i64 a, .int .i64 b, .int .i64 m] w fun e w' => e = .returned (.bool true) ∧ Below w.heap.size w w' := by
  have HV := Lib.hid hv
  have B0 := Lib.hid (Below.refl w.heap.size w)
  have C1 := Lib.hid H1
  have C2 := Lib.hid H2
  have C3 := Lib.hid H3
  have C4 := Lib.hid H4
  have C5 := Lib.hid H5
  have C6 := Lib.hid H6
  have C7 := Lib.hid H7
  clear hv H1 H2 H3 H4 H5 H6 H7
  go_enter Tryz.func8, Tryz.ntmps8
  go_wp2_with (first
    | (go_at_call 12; ((with_reducible refine (C1.out _ (HV.out.below B0.out)).mono ?_); rintro e w1 ⟨rfl, b⟩; have B1 := Lib.hid (btE B0.out b); clear b))
    | (go_at_call 10; ((with_reducible refine (C2.out _ (HV.out.below B1.out)).mono ?_); rintro e w2 ⟨rfl, b⟩; have B2 := Lib.hid (btE B1.out b); clear b))
    | (go_at_call 10; ((with_reducible refine (C3.out _ (HV.out.below B2.out)).mono ?_); rintro e w3 ⟨rfl, b⟩; have B3 := Lib.hid (btE B2.out b); clear b))
    | (go_at_call 10; ((with_reducible refine (C4.out _ (HV.out.below B3.out)).mono ?_); rintro e w4 ⟨rfl, b⟩; have B4 := Lib.hid (btE B3.out b); clear b))
    | (go_at_call 10; ((with_reducible refine (C5.out _ (HV.out.below B4.out)).mono ?_); rintro e w5 ⟨rfl, b⟩; have B5 := Lib.hid (btE B4.out b); clear b))
    | (go_at_call 17; ((with_reducible refine (C6.out _ (HV.out.below B5.out)).mono ?_); rintro e w6 ⟨rfl, b⟩; have B6 := Lib.hid (btE B5.out b); clear b))
    | (go_at_call 17; ((with_reducible refine (C7.out _ (HV.out.below B6.out)).mono ?_); rintro e w7 ⟨rfl, b⟩; have B7 := Lib.hid (btE B6.out b); clear b)))
  go_ret
  exact ⟨ret_boolD (by simp), B7.out⟩
set_option maxRecDepth 100000 in
set_option maxHeartbeats 3200000 in
theorem dorder_Q1_le (r a b m t A : Int) (x y : Int) (i1 i2 i3 j1 j2 : Int) (w : World) (hv : VarF w)
    (ht : wrap64 (b + m) = t) (hm : 0 ≤ m) (hm2 : m ≤ 99999) (hxy : x ≤ y) (hab : a ≤ b) (hd : i3 < 30) (A0 : -100000 ≤ A) (A1 : A ≤ 100000)
    (H1 : ∀ W, VarF W → Calls Tryz.prog 12 #[] W (BolR true W))
    (H2 : ∀ W, VarF W → Calls Tryz.prog 10 #[.int .u8 r, .int .i64 a, .int .i64 b] W (DysR x 0 W))
    (H3 : ∀ W, VarF W → Calls Tryz.prog 10 #[.int .u8 r, .int .i64 a, .int .i64 t] W (DysR y 0 W))
    (H4 : ∀ W, VarF W → Calls Tryz.prog 10 #[.int .u8 2, .int .i64 a, .int .i64 b] W (DysR A 0 W))
    (H5 : ∀ W, VarF W → Calls Tryz.prog 10 #[.int .u8 4, .int .i64 a, .int .i64 b] W (DysR (A + 1) 0 W))
    (H6 : ∀ W, VarF W → Calls Tryz.prog 17 #[.int .i64 a] W (P4R i1 i2 i3 0 W))
    (H7 : ∀ W, VarF W → Calls Tryz.prog 17 #[.int .i64 b] W (P4R j1 j2 31 0 W)) :
    Calls Tryz.prog 8 #[.int .u8 r, .int .i64 a, .int .i64 b, .int .i64 m] w fun e w' => e = .returned (.bool true) ∧ Below w.heap.size w w' := by
  have HV := Lib.hid hv
  have B0 := Lib.hid (Below.refl w.heap.size w)
  have C1 := Lib.hid H1
  have C2 := Lib.hid H2
  have C3 := Lib.hid H3
  have C4 := Lib.hid H4
  have C5 := Lib.hid H5
  have C6 := Lib.hid H6
  have C7 := Lib.hid H7
  clear hv H1 H2 H3 H4 H5 H6 H7
  go_enter Tryz.func8, Tryz.ntmps8
  go_wp2_with (first
    | (go_at_call 12; ((with_reducible refine (C1.out _ (HV.out.below B0.out)).mono ?_); rintro e w1 ⟨rfl, b⟩; have B1 := Lib.hid (btE B0.out b); clear b))
    | (go_at_call 10; ((with_reducible refine (C2.out _ (HV.out.below B1.out)).mono ?_); rintro e w2 ⟨rfl, b⟩; have B2 := Lib.hid (btE B1.out b); clear b))
    | (go_at_call 10; ((with_reducible refine (C3.out _ (HV.out.below B2.out)).mono ?_); rintro e w3 ⟨rfl, b⟩; have B3 := Lib.hid (btE B2.out b); clear b))
    | (go_at_call 10; ((with_reducible refine (C4.out _ (HV.out.below B3.out)).mono ?_); rintro e w4 ⟨rfl, b⟩; have B4 := Lib.hid (btE B3.out b); clear b))
    | (go_at_call 10; ((with_reducible refine (C5.out _ (HV.out.below B4.out)).mono ?_); rintro e w5 ⟨rfl, b⟩; have B5 := Lib.hid (btE B4.out b); clear b))
    | (go_at_call 17; ((with_reducible refine (C6.out _ (HV.out.below B5.out)).mono ?_); rintro e w6 ⟨rfl, b⟩; have B6 := Lib.hid (btE B5.out b); clear b))
    | (go_at_call 17; ((with_reducible refine (C7.out _ (HV.out.below B6.out)).mono ?_); rintro e w7 ⟨rfl, b⟩; have B7 := Lib.hid (btE B6.out b); clear b)))
  go_ret
  exact ⟨ret_boolD (by simp), B7.out⟩
set_option maxRecDepth 100000 in
set_option maxHeartbeats 3200000 in
theorem dorder_Q2_le (r a b m t A : Int) (x y : Int) (i1 i2 i3 j1 j2 : Int) (w : World) (hv : VarF w)
    (ht : wrap64 (b + m) = t) (hm : 0 ≤ m) (hm2 : m ≤ 99999) (hxy : x ≤ y) (hab : a ≤ b) (hd : 30 ≤ i3) (A0 : -100000 ≤ A) (A1 : A ≤ 100000)
    (H1 : ∀ W, VarF W → Calls Tryz.prog 12 #[] W (BolR true W))
    (H2 : ∀ W, VarF W → Calls Tryz.prog 10 #[.int .u8 r, .int .i64 a, .int .i64 b] W (DysR x 0 W))
    (H3 : ∀ W, VarF W → Calls Tryz.prog 10 #[.int .u8 r, .int .i64 a, .int .i64 t] W (DysR y 0 W))
    (H4 : ∀ W, VarF W → Calls Tryz.prog 10 #[.int .u8 2, .int .i64 a, .int .i64 b] W (DysR A 0 W))
    (H5 : ∀ W, VarF W → Calls Tryz.prog 10 #[.int .u8 4, .int .i64 a, .int .i64 b] W (DysR A 0 W))
    (H6 : ∀ W, VarF W → Calls Tryz.prog 17 #[.int .i64 a] W (P4R i1 i2 i3 0 W))
    (H7 : ∀ W, VarF W → Calls Tryz.prog 17 #[.int .i64 b] W (P4R j1 j2 31 0 W)) :
    Calls Tryz.prog 8 #[.int .u8 r, .int .i64 a, .int .i64 b, .int .i64 m] w fun e w' => e = .returned (.bool true) ∧ Below w.heap.size w w' := by
  have HV := Lib.hid hv
  have B0 := Lib.hid (Below.refl w.heap.size w)
  have C1 := Lib.hid H1
  have C2 := Lib.hid H2
  have C3 := Lib.hid H3
  have C4 := Lib.hid H4
  have C5 := Lib.hid H5
  have C6 := Lib.hid H6
  have C7 := Lib.hid H7
  clear hv H1 H2 H3 H4 H5 H6 H7
  go_enter Tryz.func8, Tryz.ntmps8
  go_wp2_with (first
    | (go_at_call 12; ((with_reducible refine (C1.out _ (HV.out.below B0.out)).mono ?_); rintro e w1 ⟨rfl, b⟩; have B1 := Lib.hid (btE B0.out b); clear b))
    | (go_at_call 10; ((with_reducible refine (C2.out _ (HV.out.below B1.out)).mono ?_); rintro e w2 ⟨rfl, b⟩; have B2 := Lib.hid (btE B1.out b); clear b))
    | (go_at_call 10; ((with_reducible refine (C3.out _ (HV.out.below B2.out)).mono ?_); rintro e w3 ⟨rfl, b⟩; have B3 := Lib.hid (btE B2.out b); clear b))
    | (go_at_call 10; ((with_reducible refine (C4.out _ (HV.out.below B3.out)).mono ?_); rintro e w4 ⟨rfl, b⟩; have B4 := Lib.hid (btE B3.out b); clear b))
    | (go_at_call 10; ((with_reducible refine (C5.out _ (HV.out.below B4.out)).mono ?_); rintro e w5 ⟨rfl, b⟩; have B5 := Lib.hid (btE B4.out b); clear b))
    | (go_at_call 17; ((with_reducible refine (C6.out _ (HV.out.below B5.out)).mono ?_); rintro e w6 ⟨rfl, b⟩; have B6 := Lib.hid (btE B5.out b); clear b))
    | (go_at_call 17; ((with_reducible refine (C7.out _ (HV.out.below B6.out)).mono ?_); rintro e w7 ⟨rfl, b⟩; have B7 := Lib.hid (btE B6.out b); clear b)))
  go_ret
  exact ⟨ret_boolD (by simp), B7.out⟩
set_option maxRecDepth 100000 in
set_option maxHeartbeats 3200000 in
theorem dorder_Q3_le (r a b m t A : Int) (x y : Int) (i1 i2 i3 j1 j2 j3 : Int) (w : World) (hv : VarF w)
    (ht : wrap64 (b + m) = t) (hm : 0 ≤ m) (hm2 : m ≤ 99999) (hxy : x ≤ y) (hab : a ≤ b) (hr : (j3 == 31) = false) (A0 : -100000 ≤ A) (A1 : A ≤ 100000)
    (H1 : ∀ W, VarF W → Calls Tryz.prog 12 #[] W (BolR true W))
    (H2 : ∀ W, VarF W → Calls Tryz.prog 10 #[.int .u8 r, .int .i64 a, .int .i64 b] W (DysR x 0 W))
    (H3 : ∀ W, VarF W → Calls Tryz.prog 10 #[.int .u8 r, .int .i64 a, .int .i64 t] W (DysR y 0 W))
    (H4 : ∀ W, VarF W → Calls Tryz.prog 10 #[.int .u8 2, .int .i64 a, .int .i64 b] W (DysR A 0 W))
    (H5 : ∀ W, VarF W → Calls Tryz.prog 10 #[.int .u8 4, .int .i64 a, .int .i64 b] W (DysR A 0 W))
    (H6 : ∀ W, VarF W → Calls Tryz.prog 17 #[.int .i64 a] W (P4R i1 i2 i3 0 W))
    (H7 : ∀ W, VarF W → Calls Tryz.prog 17 #[.int .i64 b] W (P4R j1 j2 j3 0 W)) :
    Calls Tryz.prog 8 #[.int .u8 r, .int .i64 a, .int .i64 b, .int .i64 m] w fun e w' => e = .returned (.bool true) ∧ Below w.heap.size w w' := by
  have HV := Lib.hid hv
  have B0 := Lib.hid (Below.refl w.heap.size w)
  have C1 := Lib.hid H1
  have C2 := Lib.hid H2
  have C3 := Lib.hid H3
  have C4 := Lib.hid H4
  have C5 := Lib.hid H5
  have C6 := Lib.hid H6
  have C7 := Lib.hid H7
  clear hv H1 H2 H3 H4 H5 H6 H7
  go_enter Tryz.func8, Tryz.ntmps8
  go_wp2_with (first
    | (go_at_call 12; ((with_reducible refine (C1.out _ (HV.out.below B0.out)).mono ?_); rintro e w1 ⟨rfl, b⟩; have B1 := Lib.hid (btE B0.out b); clear b))
    | (go_at_call 10; ((with_reducible refine (C2.out _ (HV.out.below B1.out)).mono ?_); rintro e w2 ⟨rfl, b⟩; have B2 := Lib.hid (btE B1.out b); clear b))
    | (go_at_call 10; ((with_reducible refine (C3.out _ (HV.out.below B2.out)).mono ?_); rintro e w3 ⟨rfl, b⟩; have B3 := Lib.hid (btE B2.out b); clear b))
    | (go_at_call 10; ((with_reducible refine (C4.out _ (HV.out.below B3.out)).mono ?_); rintro e w4 ⟨rfl, b⟩; have B4 := Lib.hid (btE B3.out b); clear b))
    | (go_at_call 10; ((with_reducible refine (C5.out _ (HV.out.below B4.out)).mono ?_); rintro e w5 ⟨rfl, b⟩; have B5 := Lib.hid (btE B4.out b); clear b))
    | (go_at_call 17; ((with_reducible refine (C6.out _ (HV.out.below B5.out)).mono ?_); rintro e w6 ⟨rfl, b⟩; have B6 := Lib.hid (btE B5.out b); clear b))
    | (go_at_call 17; ((with_reducible refine (C7.out _ (HV.out.below B6.out)).mono ?_); rintro e w7 ⟨rfl, b⟩; have B7 := Lib.hid (btE B6.out b); clear b)))
  go_ret
  exact ⟨ret_boolD (by simp), B7.out⟩
theorem wrap_small {x : Int} (h0 : -9223372036854775808 ≤ x) (h1 : x ≤ 9223372036854775807) : wrap64 x = x := by unfold wrap64; omega
theorem order_any {r a : Int} (r0 : 0 ≤ r) (r2 : r ≤ 255) (t : Int) : ∃ y f, ∀ W, VarF W → Calls Tryz.prog 10 #[.int .u8 r, .int .i64 a, .int .i64 t] W (DysR y f W) := by
  by_cases h : r ≤ 4 ∧ 0 ≤ a ∧ a ≤ 99999 ∧ 0 ≤ t ∧ t ≤ 99999
  · obtain ⟨r4, a0, a1, b0, b1⟩ := h
    obtain ⟨y1, m1, d1, h1⟩ := isDate_of a a0
    obtain ⟨y2, m2, d2, h2⟩ := isDate_of t b0
    exact ⟨_, 0, fun W hW => days_in r y1 m1 d1 a y2 m2 d2 t _ r0 r4 h1 h2 a1 b1 rfl W hW.d⟩
  · exact ⟨0, 2, fun W hW => days_out r a t r0 r2 (by omega) W hW.d⟩
theorem dorder_law (r a b m : Int) (r0 : 0 ≤ r) (r2 : r ≤ 255) (w : World) (hv : VarF w) :
    Calls Tryz.prog 8 #[.int .u8 r, .int .i64 a, .int .i64 b, .int .i64 m] w fun e w' => e = .returned (.bool true) ∧ Below w.heap.size w w' := by
  obtain ⟨t, ht⟩ : ∃ t, wrap64 (b + m) = t := ⟨_, rfl⟩
  have hm3 : m < 0 ∨ (0 ≤ m ∧ 99999 < m) ∨ (0 ≤ m ∧ m ≤ 99999) := by omega
  obtain ⟨y', f', DT⟩ := order_any (a := a) r0 r2 t
  by_cases hA : 0 ≤ a ∧ a ≤ 99999 ∧ 0 ≤ b ∧ b ≤ 99999
  · obtain ⟨a0, a1, b0, b1⟩ := hA
    obtain ⟨y1, m1, d1, h1⟩ := isDate_of a a0
    obtain ⟨y2, m2, d2, h2⟩ := isDate_of b b0
    have E2 := fun W (hW : VarF W) => days_in 2 y1 m1 d1 a y2 m2 d2 b _ (by decide) (by decide) h1 h2 a1 b1 rfl W hW.d
    have E4 := fun W (hW : VarF W) => days_in 4 y1 m1 d1 a y2 m2 d2 b _ (by decide) (by decide) h1 h2 a1 b1 rfl W hW.d
    have P1 := fun W (hW : VarF W) => parts_p h1 a1 W hW
    have P2 := fun W (hW : VarF W) => parts_p h2 b1 W hW
    have bd := dys_bd (r := 2) h1 h2 a1 b1
    by_cases hba : b < a
    · by_cases hr : r ≤ 4
      · have D1 := fun W (hW : VarF W) => days_in r y1 m1 d1 a y2 m2 d2 b _ r0 hr h1 h2 a1 b1 rfl W hW.d
        by_cases hm : 0 ≤ m ∧ m ≤ 99999
        · by_cases htd : 0 ≤ t ∧ t ≤ 99999
          · obtain ⟨y3, m3, d3, h3⟩ := isDate_of t htd.1
            exact dorder_P_le r a b m t _ _ _ _ _ _ _ _ _ _ _ _ w hv ht hm.1 hm.2 hba alive5 D1 (fun W hW => days_in r y1 m1 d1 a y3 m3 d3 t _ r0 hr h1 h3 a1 htd.2 rfl W hW.d) E2 E4 P1 P2
          · exact dorder_P_far r a b m t _ _ _ _ _ _ _ _ _ _ _ w hv ht hm.1 hm.2 hba alive5 D1 (fun W hW => days_out r a t r0 r2 (by omega) W hW.d) E2 E4 P1 P2
        · exact dorder_P_out r a b m t _ _ _ _ _ _ _ _ _ _ _ _ _ w hv ht (by omega) hba alive5 D1 DT E2 E4 P1 P2
      · exact dorder_P_err r a b m t _ _ _ _ _ _ _ _ _ _ _ _ w hv ht hm3 hba alive5 (fun W hW => days_out r a b r0 r2 (by omega) W hW.d) DT E2 E4 P1 P2
    · have hab : a ≤ b := by omega
      have hb := dys_bond (d1 := d1) (y1 := y1) (m1 := m1) h2 hab
      by_cases h31 : d2 = 31
      · by_cases h30 : d1 < 30
        · rw [if_pos ⟨h31, h30⟩] at hb
          rw [hb] at E4
          subst h31
          by_cases hr : r ≤ 4
          · have D1 := fun W (hW : VarF W) => days_in r y1 m1 d1 a y2 m2 31 b _ r0 hr h1 h2 a1 b1 rfl W hW.d
            by_cases hm : 0 ≤ m ∧ m ≤ 99999
            · by_cases htd : 0 ≤ t ∧ t ≤ 99999
              · obtain ⟨y3, m3, d3, h3⟩ := isDate_of t htd.1
                have htb : b + m = t := by rw [← ht]; symm; exact wrap_small (by omega) (by omega)
                exact dorder_Q1_le r a b m t _ _ _ _ _ _ _ _ w hv ht hm.1 hm.2 (dys_mono h2 h3 hab (by omega)) hab h30 bd.1 bd.2 alive5 D1 (fun W hW => days_in r y1 m1 d1 a y3 m3 d3 t _ r0 hr h1 h3 a1 htd.2 rfl W hW.d) E2 E4 P1 P2
              · exact dorder_Q1_far r a b m t _ _ _ _ _ _ _ w hv ht hm.1 hm.2 hab h30 bd.1 bd.2 alive5 D1 (fun W hW => days_out r a t r0 r2 (by omega) W hW.d) E2 E4 P1 P2
            · exact dorder_Q1_out r a b m t _ _ _ _ _ _ _ _ _ w hv ht (by omega) hab h30 bd.1 bd.2 alive5 D1 DT E2 E4 P1 P2
          · exact dorder_Q1_err r a b m t _ _ _ _ _ _ _ _ w hv ht hm3 hab h30 bd.1 bd.2 alive5 (fun W hW => days_out r a b r0 r2 (by omega) W hW.d) DT E2 E4 P1 P2
        · rw [if_neg (fun h => h30 h.2), Int.add_zero] at hb
          rw [hb] at E4
          subst h31
          have h30' : 30 ≤ d1 := by omega
          by_cases hr : r ≤ 4
          · have D1 := fun W (hW : VarF W) => days_in r y1 m1 d1 a y2 m2 31 b _ r0 hr h1 h2 a1 b1 rfl W hW.d
            by_cases hm : 0 ≤ m ∧ m ≤ 99999
            · by_cases htd : 0 ≤ t ∧ t ≤ 99999
              · obtain ⟨y3, m3, d3, h3⟩ := isDate_of t htd.1
                have htb : b + m = t := by rw [← ht]; symm; exact wrap_small (by omega) (by omega)
                exact dorder_Q2_le r a b m t _ _ _ _ _ _ _ _ w hv ht hm.1 hm.2 (dys_mono h2 h3 hab (by omega)) hab h30' bd.1 bd.2 alive5 D1 (fun W hW => days_in r y1 m1 d1 a y3 m3 d3 t _ r0 hr h1 h3 a1 htd.2 rfl W hW.d) E2 E4 P1 P2
              · exact dorder_Q2_far r a b m t _ _ _ _ _ _ _ w hv ht hm.1 hm.2 hab h30' bd.1 bd.2 alive5 D1 (fun W hW => days_out r a t r0 r2 (by omega) W hW.d) E2 E4 P1 P2
            · exact dorder_Q2_out r a b m t _ _ _ _ _ _ _ _ _ w hv ht (by omega) hab h30' bd.1 bd.2 alive5 D1 DT E2 E4 P1 P2
          · exact dorder_Q2_err r a b m t _ _ _ _ _ _ _ _ w hv ht hm3 hab h30' bd.1 bd.2 alive5 (fun W hW => days_out r a b r0 r2 (by omega) W hW.d) DT E2 E4 P1 P2
      · rw [if_neg (fun h => h31 h.1), Int.add_zero] at hb
        rw [hb] at E4
        have h31' : (d2 == 31) = false := by rw [beq_eq_false_iff_ne]; exact h31
        by_cases hr : r ≤ 4
        · have D1 := fun W (hW : VarF W) => days_in r y1 m1 d1 a y2 m2 d2 b _ r0 hr h1 h2 a1 b1 rfl W hW.d
          by_cases hm : 0 ≤ m ∧ m ≤ 99999
          · by_cases htd : 0 ≤ t ∧ t ≤ 99999
            · obtain ⟨y3, m3, d3, h3⟩ := isDate_of t htd.1
              have htb : b + m = t := by rw [← ht]; symm; exact wrap_small (by omega) (by omega)
              exact dorder_Q3_le r a b m t _ _ _ _ _ _ _ _ _ w hv ht hm.1 hm.2 (dys_mono h2 h3 hab (by omega)) hab h31' bd.1 bd.2 alive5 D1 (fun W hW => days_in r y1 m1 d1 a y3 m3 d3 t _ r0 hr h1 h3 a1 htd.2 rfl W hW.d) E2 E4 P1 P2
            · exact dorder_Q3_far r a b m t _ _ _ _ _ _ _ _ w hv ht hm.1 hm.2 hab h31' bd.1 bd.2 alive5 D1 (fun W hW => days_out r a t r0 r2 (by omega) W hW.d) E2 E4 P1 P2
          · exact dorder_Q3_out r a b m t _ _ _ _ _ _ _ _ _ _ w hv ht (by omega) hab h31' bd.1 bd.2 alive5 D1 DT E2 E4 P1 P2
        · exact dorder_Q3_err r a b m t _ _ _ _ _ _ _ _ _ w hv ht hm3 hab h31' bd.1 bd.2 alive5 (fun W hW => days_out r a b r0 r2 (by omega) W hW.d) DT E2 E4 P1 P2
  · obtain ⟨i1, i2, i3, i4, P1⟩ := parts_q a
    obtain ⟨j1, j2, j3, j4, P2⟩ := parts_q b
    exact dorder_I r a b m t _ _ _ _ _ _ _ _ _ _ w hv ht hm3 alive5 (fun W hW => days_out r a b r0 r2 (by omega) W hW.d) DT (fun W hW => days_out 2 a b (by decide) (by decide) (by omega) W hW.d) (fun W hW => days_out 4 a b (by decide) (by decide) (by omega) W hW.d) P1 P2
end Go.Proofs.YtpgfadkkfofhcaaGreatDoor

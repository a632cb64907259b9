/- The walk of the law DaycountAdds. -/
import Derived.Test.YtpgfadkkfofhcaaGreatDoorDcJ
import Derived.Test.YtpgfadkkfofhcaaGreatDoorDcK
namespace Go.Proofs.YtpgfadkkfofhcaaGreatDoor
open Go Go.RowKit

set_option maxRecDepth 100000 in
set_option maxHeartbeats 3200000 in
theorem dadds_four (a b c x y z : Int) (P Q S T : ByteArray) (w : World) (hv : VarF w)
    (H1 : ∀ W, VarF W → Calls Tryz.prog 12 #[] W (BolR true W))
    (H2 : ∀ W, VarF W → Calls Tryz.prog 10 #[.int .u8 4, .int .i64 a, .int .i64 b] W (DysR x 0 W))
    (H3 : ∀ W, VarF W → Calls Tryz.prog 10 #[.int .u8 4, .int .i64 b, .int .i64 c] W (DysR y 0 W))
    (H4 : ∀ W, VarF W → Calls Tryz.prog 10 #[.int .u8 4, .int .i64 a, .int .i64 c] W (DysR z 0 W))
    (H5 : ∀ W, VarF W → Calls Tryz.prog 9 #[.int .u8 4, .int .i64 a, .int .i64 b] W (StE P 0 W))
    (H6 : ∀ W, VarF W → Calls Tryz.prog 9 #[.int .u8 4, .int .i64 b, .int .i64 c] W (StE Q 0 W))
    (H7 : ∀ W, VarF W → Calls Tryz.prog 9 #[.int .u8 4, .int .i64 a, .int .i64 c] W (StE S 0 W))
    (H8 : ∀ W, VarF W → Calls Tryz.prog 14 #[.string P, .string Q] W (StE T 0 W)) :
    Calls Tryz.prog 5 #[.int .u8 4, .int .i64 a, .int .i64 b, .int .i64 c] w fun e w' => e = .returned (.bool true) ∧ Below w.heap.size w w' := by
  have HV := Lib.hid hv
  have B0 := Lib.hid (Below.refl w.heap.size w)
  have C1 := Lib.hid H1
  have C2 := Lib.hid H2
  have C3 := Lib.hid H3
  have C4 := Lib.hid H4
  have C5 := Lib.hid H5
  have C6 := Lib.hid H6
  have C7 := Lib.hid H7
  have C8 := Lib.hid H8
  clear hv H1 H2 H3 H4 H5 H6 H7 H8
  go_enter Tryz.func5, Tryz.ntmps5
  go_wp2_with (first
    | (go_at_call 12; ((with_reducible refine (C1.out _ (HV.out.below B0.out)).mono ?_); rintro e w1 ⟨rfl, b⟩; have B1 := Lib.hid (btE B0.out b); clear b))
    | (go_at_call 10; ((with_reducible refine (C2.out _ (HV.out.below B1.out)).mono ?_); rintro e w2 ⟨rfl, b⟩; have B2 := Lib.hid (btE B1.out b); clear b))
    | (go_at_call 10; ((with_reducible refine (C3.out _ (HV.out.below B2.out)).mono ?_); rintro e w3 ⟨rfl, b⟩; have B3 := Lib.hid (btE B2.out b); clear b))
    | (go_at_call 10; ((with_reducible refine (C4.out _ (HV.out.below B3.out)).mono ?_); rintro e w4 ⟨rfl, b⟩; have B4 := Lib.hid (btE B3.out b); clear b))
    | (go_at_call 9; ((with_reducible refine (C5.out _ (HV.out.below B4.out)).mono ?_); rintro e w5 ⟨rfl, b⟩; have B5 := Lib.hid (btE B4.out b); clear b))
    | (go_at_call 9; ((with_reducible refine (C6.out _ (HV.out.below B5.out)).mono ?_); rintro e w6 ⟨rfl, b⟩; have B6 := Lib.hid (btE B5.out b); clear b))
    | (go_at_call 9; ((with_reducible refine (C7.out _ (HV.out.below B6.out)).mono ?_); rintro e w7 ⟨rfl, b⟩; have B7 := Lib.hid (btE B6.out b); clear b))
    | (go_at_call 14; ((with_reducible refine (C8.out _ (HV.out.below B7.out)).mono ?_); rintro e w8 ⟨rfl, b⟩; have B8 := Lib.hid (btE B7.out b); clear b)))
  go_ret
  exact ⟨ret_boolD (by simp), B8.out⟩
set_option maxRecDepth 100000 in
set_option maxHeartbeats 3200000 in
theorem dadds_sum (r a b c x y z : Int) (P Q S : ByteArray) (w : World) (hv : VarF w)
    (r4 : (r == 4) = false) (hz : (x + y == z) = true) (x0 : -100000 ≤ x) (x1 : x ≤ 100000) (y0 : -100000 ≤ y) (y1 : y ≤ 100000)
    (H1 : ∀ W, VarF W → Calls Tryz.prog 12 #[] W (BolR true W))
    (H2 : ∀ W, VarF W → Calls Tryz.prog 10 #[.int .u8 r, .int .i64 a, .int .i64 b] W (DysR x 0 W))
    (H3 : ∀ W, VarF W → Calls Tryz.prog 10 #[.int .u8 r, .int .i64 b, .int .i64 c] W (DysR y 0 W))
    (H4 : ∀ W, VarF W → Calls Tryz.prog 10 #[.int .u8 r, .int .i64 a, .int .i64 c] W (DysR z 0 W))
    (H5 : ∀ W, VarF W → Calls Tryz.prog 9 #[.int .u8 r, .int .i64 a, .int .i64 b] W (StE P 0 W))
    (H6 : ∀ W, VarF W → Calls Tryz.prog 9 #[.int .u8 r, .int .i64 b, .int .i64 c] W (StE Q 0 W))
    (H7 : ∀ W, VarF W → Calls Tryz.prog 9 #[.int .u8 r, .int .i64 a, .int .i64 c] W (StE S 0 W))
    (H8 : ∀ W, VarF W → Calls Tryz.prog 14 #[.string P, .string Q] W (StE S 0 W)) :
    Calls Tryz.prog 5 #[.int .u8 r, .int .i64 a, .int .i64 b, .int .i64 c] w fun e w' => e = .returned (.bool true) ∧ Below w.heap.size w w' := by
  have HV := Lib.hid hv
  have B0 := Lib.hid (Below.refl w.heap.size w)
  have C1 := Lib.hid H1
  have C2 := Lib.hid H2
  have C3 := Lib.hid H3
  have C4 := Lib.hid H4
  have C5 := Lib.hid H5
  have C6 := Lib.hid H6
  have C7 := Lib.hid H7
  have C8 := Lib.hid H8
  clear hv H1 H2 H3 H4 H5 H6 H7 H8
  go_enter Tryz.func5, Tryz.ntmps5
  go_wp2_with (first
    | (go_at_call 12; ((with_reducible refine (C1.out _ (HV.out.below B0.out)).mono ?_); rintro e w1 ⟨rfl, b⟩; have B1 := Lib.hid (btE B0.out b); clear b))
    | (go_at_call 10; ((with_reducible refine (C2.out _ (HV.out.below B1.out)).mono ?_); rintro e w2 ⟨rfl, b⟩; have B2 := Lib.hid (btE B1.out b); clear b))
    | (go_at_call 10; ((with_reducible refine (C3.out _ (HV.out.below B2.out)).mono ?_); rintro e w3 ⟨rfl, b⟩; have B3 := Lib.hid (btE B2.out b); clear b))
    | (go_at_call 10; ((with_reducible refine (C4.out _ (HV.out.below B3.out)).mono ?_); rintro e w4 ⟨rfl, b⟩; have B4 := Lib.hid (btE B3.out b); clear b))
    | (go_at_call 9; ((with_reducible refine (C5.out _ (HV.out.below B4.out)).mono ?_); rintro e w5 ⟨rfl, b⟩; have B5 := Lib.hid (btE B4.out b); clear b))
    | (go_at_call 9; ((with_reducible refine (C6.out _ (HV.out.below B5.out)).mono ?_); rintro e w6 ⟨rfl, b⟩; have B6 := Lib.hid (btE B5.out b); clear b))
    | (go_at_call 9; ((with_reducible refine (C7.out _ (HV.out.below B6.out)).mono ?_); rintro e w7 ⟨rfl, b⟩; have B7 := Lib.hid (btE B6.out b); clear b))
    | (go_at_call 14; ((with_reducible refine (C8.out _ (HV.out.below B7.out)).mono ?_); rintro e w8 ⟨rfl, b⟩; have B8 := Lib.hid (btE B7.out b); clear b)))
  go_ret
  exact ⟨ret_boolD (by simp), B8.out⟩
set_option maxRecDepth 100000 in
set_option maxHeartbeats 3200000 in
theorem dadds_e1 (r a b c z g : Int) (S : ByteArray) (w : World) (hv : VarF w)
    (H1 : ∀ W, VarF W → Calls Tryz.prog 12 #[] W (BolR true W))
    (H2 : ∀ W, VarF W → Calls Tryz.prog 10 #[.int .u8 r, .int .i64 a, .int .i64 b] W (DysR 0 2 W))
    (H3 : ∀ W, VarF W → Calls Tryz.prog 10 #[.int .u8 r, .int .i64 b, .int .i64 c] W (DysR 0 2 W))
    (H4 : ∀ W, VarF W → Calls Tryz.prog 10 #[.int .u8 r, .int .i64 a, .int .i64 c] W (DysR z g W))
    (H5 : ∀ W, VarF W → Calls Tryz.prog 9 #[.int .u8 r, .int .i64 a, .int .i64 b] W (StE ⟨#[]⟩ 2 W))
    (H6 : ∀ W, VarF W → Calls Tryz.prog 9 #[.int .u8 r, .int .i64 b, .int .i64 c] W (StE ⟨#[]⟩ 2 W))
    (H7 : ∀ W, VarF W → Calls Tryz.prog 9 #[.int .u8 r, .int .i64 a, .int .i64 c] W (StE S g W)) :
    Calls Tryz.prog 5 #[.int .u8 r, .int .i64 a, .int .i64 b, .int .i64 c] w fun e w' => e = .returned (.bool true) ∧ Below w.heap.size w w' := by
  have HV := Lib.hid hv
  have B0 := Lib.hid (Below.refl w.heap.size w)
  have C1 := Lib.hid H1
  have C2 := Lib.hid H2
  have C3 := Lib.hid H3
  have C4 := Lib.hid H4
  have C5 := Lib.hid H5
  have C6 := Lib.hid H6
  have C7 := Lib.hid H7
  clear hv H1 H2 H3 H4 H5 H6 H7
  go_enter Tryz.func5, Tryz.ntmps5
  go_wp2_with (first
    | (go_at_call 12; ((with_reducible refine (C1.out _ (HV.out.below B0.out)).mono ?_); rintro e w1 ⟨rfl, b⟩; have B1 := Lib.hid (btE B0.out b); clear b))
    | (go_at_call 10; ((with_reducible refine (C2.out _ (HV.out.below B1.out)).mono ?_); rintro e w2 ⟨rfl, b⟩; have B2 := Lib.hid (btE B1.out b); clear b))
    | (go_at_call 10; ((with_reducible refine (C3.out _ (HV.out.below B2.out)).mono ?_); rintro e w3 ⟨rfl, b⟩; have B3 := Lib.hid (btE B2.out b); clear b))
    | (go_at_call 10; ((with_reducible refine (C4.out _ (HV.out.below B3.out)).mono ?_); rintro e w4 ⟨rfl, b⟩; have B4 := Lib.hid (btE B3.out b); clear b))
    | (go_at_call 9; ((with_reducible refine (C5.out _ (HV.out.below B4.out)).mono ?_); rintro e w5 ⟨rfl, b⟩; have B5 := Lib.hid (btE B4.out b); clear b))
    | (go_at_call 9; ((with_reducible refine (C6.out _ (HV.out.below B5.out)).mono ?_); rintro e w6 ⟨rfl, b⟩; have B6 := Lib.hid (btE B5.out b); clear b))
    | (go_at_call 9; ((with_reducible refine (C7.out _ (HV.out.below B6.out)).mono ?_); rintro e w7 ⟨rfl, b⟩; have B7 := Lib.hid (btE B6.out b); clear b)))
  go_ret
  exact ⟨ret_boolD (by simp), B7.out⟩
set_option maxRecDepth 100000 in
set_option maxHeartbeats 3200000 in
theorem dadds_e2 (r a b c z g y : Int) (S Q : ByteArray) (w : World) (hv : VarF w)
    (H1 : ∀ W, VarF W → Calls Tryz.prog 12 #[] W (BolR true W))
    (H2 : ∀ W, VarF W → Calls Tryz.prog 10 #[.int .u8 r, .int .i64 a, .int .i64 b] W (DysR 0 2 W))
    (H3 : ∀ W, VarF W → Calls Tryz.prog 10 #[.int .u8 r, .int .i64 b, .int .i64 c] W (DysR y 0 W))
    (H4 : ∀ W, VarF W → Calls Tryz.prog 10 #[.int .u8 r, .int .i64 a, .int .i64 c] W (DysR z g W))
    (H5 : ∀ W, VarF W → Calls Tryz.prog 9 #[.int .u8 r, .int .i64 a, .int .i64 b] W (StE ⟨#[]⟩ 2 W))
    (H6 : ∀ W, VarF W → Calls Tryz.prog 9 #[.int .u8 r, .int .i64 b, .int .i64 c] W (StE Q 0 W))
    (H7 : ∀ W, VarF W → Calls Tryz.prog 9 #[.int .u8 r, .int .i64 a, .int .i64 c] W (StE S g W)) :
    Calls Tryz.prog 5 #[.int .u8 r, .int .i64 a, .int .i64 b, .int .i64 c] w fun e w' => e = .returned (.bool true) ∧ Below w.heap.size w w' := by
  have HV := Lib.hid hv
  have B0 := Lib.hid (Below.refl w.heap.size w)
  have C1 := Lib.hid H1
  have C2 := Lib.hid H2
  have C3 := Lib.hid H3
  have C4 := Lib.hid H4
  have C5 := Lib.hid H5
  have C6 := Lib.hid H6
  have C7 := Lib.hid H7
  clear hv H1 H2 H3 H4 H5 H6 H7
  go_enter Tryz.func5, Tryz.ntmps5
  go_wp2_with (first
    | (go_at_call 12; ((with_reducible refine (C1.out _ (HV.out.below B0.out)).mono ?_); rintro e w1 ⟨rfl, b⟩; have B1 := Lib.hid (btE B0.out b); clear b))
    | (go_at_call 10; ((with_reducible refine (C2.out _ (HV.out.below B1.out)).mono ?_); rintro e w2 ⟨rfl, b⟩; have B2 := Lib.hid (btE B1.out b); clear b))
    | (go_at_call 10; ((with_reducible refine (C3.out _ (HV.out.below B2.out)).mono ?_); rintro e w3 ⟨rfl, b⟩; have B3 := Lib.hid (btE B2.out b); clear b))
    | (go_at_call 10; ((with_reducible refine (C4.out _ (HV.out.below B3.out)).mono ?_); rintro e w4 ⟨rfl, b⟩; have B4 := Lib.hid (btE B3.out b); clear b))
    | (go_at_call 9; ((with_reducible refine (C5.out _ (HV.out.below B4.out)).mono ?_); rintro e w5 ⟨rfl, b⟩; have B5 := Lib.hid (btE B4.out b); clear b))
    | (go_at_call 9; ((with_reducible refine (C6.out _ (HV.out.below B5.out)).mono ?_); rintro e w6 ⟨rfl, b⟩; have B6 := Lib.hid (btE B5.out b); clear b))
    | (go_at_call 9; ((with_reducible refine (C7.out _ (HV.out.below B6.out)).mono ?_); rintro e w7 ⟨rfl, b⟩; have B7 := Lib.hid (btE B6.out b); clear b)))
  go_ret
  exact ⟨ret_boolD (by simp), B7.out⟩
set_option maxRecDepth 100000 in
set_option maxHeartbeats 3200000 in
theorem dadds_e3 (r a b c z g x : Int) (S P : ByteArray) (w : World) (hv : VarF w)
    (H1 : ∀ W, VarF W → Calls Tryz.prog 12 #[] W (BolR true W))
    (H2 : ∀ W, VarF W → Calls Tryz.prog 10 #[.int .u8 r, .int .i64 a, .int .i64 b] W (DysR x 0 W))
    (H3 : ∀ W, VarF W → Calls Tryz.prog 10 #[.int .u8 r, .int .i64 b, .int .i64 c] W (DysR 0 2 W))
    (H4 : ∀ W, VarF W → Calls Tryz.prog 10 #[.int .u8 r, .int .i64 a, .int .i64 c] W (DysR z g W))
    (H5 : ∀ W, VarF W → Calls Tryz.prog 9 #[.int .u8 r, .int .i64 a, .int .i64 b] W (StE P 0 W))
    (H6 : ∀ W, VarF W → Calls Tryz.prog 9 #[.int .u8 r, .int .i64 b, .int .i64 c] W (StE ⟨#[]⟩ 2 W))
    (H7 : ∀ W, VarF W → Calls Tryz.prog 9 #[.int .u8 r, .int .i64 a, .int .i64 c] W (StE S g W)) :
    Calls Tryz.prog 5 #[.int .u8 r, .int .i64 a, .int .i64 b, .int .i64 c] w fun e w' => e = .returned (.bool true) ∧ Below w.heap.size w w' := by
  have HV := Lib.hid hv
  have B0 := Lib.hid (Below.refl w.heap.size w)
  have C1 := Lib.hid H1
  have C2 := Lib.hid H2
  have C3 := Lib.hid H3
  have C4 := Lib.hid H4
  have C5 := Lib.hid H5
  have C6 := Lib.hid H6
  have C7 := Lib.hid H7
  clear hv H1 H2 H3 H4 H5 H6 H7
  go_enter Tryz.func5, Tryz.ntmps5
  go_wp2_with (first
    | (go_at_call 12; ((with_reducible refine (C1.out _ (HV.out.below B0.out)).mono ?_); rintro e w1 ⟨rfl, b⟩; have B1 := Lib.hid (btE B0.out b); clear b))
    | (go_at_call 10; ((with_reducible refine (C2.out _ (HV.out.below B1.out)).mono ?_); rintro e w2 ⟨rfl, b⟩; have B2 := Lib.hid (btE B1.out b); clear b))
    | (go_at_call 10; ((with_reducible refine (C3.out _ (HV.out.below B2.out)).mono ?_); rintro e w3 ⟨rfl, b⟩; have B3 := Lib.hid (btE B2.out b); clear b))
    | (go_at_call 10; ((with_reducible refine (C4.out _ (HV.out.below B3.out)).mono ?_); rintro e w4 ⟨rfl, b⟩; have B4 := Lib.hid (btE B3.out b); clear b))
    | (go_at_call 9; ((with_reducible refine (C5.out _ (HV.out.below B4.out)).mono ?_); rintro e w5 ⟨rfl, b⟩; have B5 := Lib.hid (btE B4.out b); clear b))
    | (go_at_call 9; ((with_reducible refine (C6.out _ (HV.out.below B5.out)).mono ?_); rintro e w6 ⟨rfl, b⟩; have B6 := Lib.hid (btE B5.out b); clear b))
    | (go_at_call 9; ((with_reducible refine (C7.out _ (HV.out.below B6.out)).mono ?_); rintro e w7 ⟨rfl, b⟩; have B7 := Lib.hid (btE B6.out b); clear b)))
  go_ret
  exact ⟨ret_boolD (by simp), B7.out⟩
/-- What Days and Fraction answer of two numbers. -/
theorem df_any (r a b : Int) (r0 : 0 ≤ r) (r2 : r ≤ 255) : ∃ v c s, (∀ W, VarF W → Calls Tryz.prog 10 #[.int .u8 r, .int .i64 a, .int .i64 b] W (DysR v c W)) ∧ (∀ W, VarF W → Calls Tryz.prog 9 #[.int .u8 r, .int .i64 a, .int .i64 b] W (StE s c W)) := by
  by_cases h : r ≤ 4 ∧ 0 ≤ a ∧ a ≤ 99999 ∧ 0 ≤ b ∧ b ≤ 99999
  · obtain ⟨r4, a0, a1, b0, b1⟩ := h
    obtain ⟨y1, m1, d1, h1⟩ := isDate_of a a0
    obtain ⟨y2, m2, d2, h2⟩ := isDate_of b b0
    exact ⟨_, 0, _, fun W hW => days_in r y1 m1 d1 a y2 m2 d2 b _ r0 r4 h1 h2 a1 b1 rfl W hW.d, fun W hW => frac_in r y1 m1 d1 a y2 m2 d2 b _ r0 r4 h1 h2 a1 b1 rfl W hW⟩
  · exact ⟨0, 2, _, fun W hW => days_out r a b r0 r2 (by omega) W hW.d, fun W hW => frac_out r a b r0 r2 (by omega) W hW⟩
theorem dadds_law (r a b c : Int) (r0 : 0 ≤ r) (r2 : r ≤ 255) (w : World) (hv : VarF w) :
    Calls Tryz.prog 5 #[.int .u8 r, .int .i64 a, .int .i64 b, .int .i64 c] w fun e w' => e = .returned (.bool true) ∧ Below w.heap.size w w' := by
  obtain ⟨z, g, S, Z1, Z2⟩ := df_any r a c r0 r2
  by_cases hA : r ≤ 4 ∧ 0 ≤ a ∧ a ≤ 99999 ∧ 0 ≤ b ∧ b ≤ 99999
  · by_cases hB : 0 ≤ c ∧ c ≤ 99999
    · clear Z1 Z2
      obtain ⟨r4, a0, a1, b0, b1⟩ := hA
      obtain ⟨c0, c1⟩ := hB
      obtain ⟨y1, m1, d1, h1⟩ := isDate_of a a0
      obtain ⟨y2, m2, d2, h2⟩ := isDate_of b b0
      obtain ⟨y3, m3, d3, h3⟩ := isDate_of c c0
      have D1 := fun W (hW : VarF W) => days_in r y1 m1 d1 a y2 m2 d2 b _ r0 r4 h1 h2 a1 b1 rfl W hW.d
      have D2 := fun W (hW : VarF W) => days_in r y2 m2 d2 b y3 m3 d3 c _ r0 r4 h2 h3 b1 c1 rfl W hW.d
      have D3 := fun W (hW : VarF W) => days_in r y1 m1 d1 a y3 m3 d3 c _ r0 r4 h1 h3 a1 c1 rfl W hW.d
      have F1 := fun W (hW : VarF W) => frac_in r y1 m1 d1 a y2 m2 d2 b _ r0 r4 h1 h2 a1 b1 rfl W hW
      have F2 := fun W (hW : VarF W) => frac_in r y2 m2 d2 b y3 m3 d3 c _ r0 r4 h2 h3 b1 c1 rfl W hW
      have F3 := fun W (hW : VarF W) => frac_in r y1 m1 d1 a y3 m3 d3 c _ r0 r4 h1 h3 a1 c1 rfl W hW
      have q1 := frQ_qd (r := r) h1 h2 a1 b1
      have q2 := frQ_qd (r := r) h2 h3 b1 c1
      have FA := fun W (hW : VarF W) => radd_rq (q1.sml (by decide)) (q2.sml (by decide)) (addC_zero q1 q2 (by decide)) rfl _ _ _ rfl rfl rfl W hW.r
      by_cases hr : r = 4
      · subst hr
        exact dadds_four a b c _ _ _ _ _ _ _ w hv alive5 D1 D2 D3 F1 F2 F3 FA
      · rw [frQ_add _ _ _ _ _ _ _ _ _ _ _ _ hr] at FA
        have x := dys_bd (r := r) h1 h2 a1 b1
        have y := dys_bd (r := r) h2 h3 b1 c1
        exact dadds_sum r a b c _ _ _ _ _ _ w hv (by rw [beq_eq_false_iff_ne]; exact hr) (by rw [beq_iff_eq]; exact dys_add _ _ _ _ _ _ _ _ _ _ _ _ hr) x.1 x.2 y.1 y.2 alive5 D1 D2 D3 F1 F2 F3 FA
    · obtain ⟨r4, a0, a1, b0, b1⟩ := hA
      obtain ⟨y1, m1, d1, h1⟩ := isDate_of a a0
      obtain ⟨y2, m2, d2, h2⟩ := isDate_of b b0
      exact dadds_e3 r a b c z g _ S _ w hv alive5 (fun W hW => days_in r y1 m1 d1 a y2 m2 d2 b _ r0 r4 h1 h2 a1 b1 rfl W hW.d) (fun W hW => days_out r b c r0 r2 (by omega) W hW.d) Z1 (fun W hW => frac_in r y1 m1 d1 a y2 m2 d2 b _ r0 r4 h1 h2 a1 b1 rfl W hW) (fun W hW => frac_out r b c r0 r2 (by omega) W hW) Z2
  · by_cases hB : r ≤ 4 ∧ 0 ≤ b ∧ b ≤ 99999 ∧ 0 ≤ c ∧ c ≤ 99999
    · obtain ⟨r4, a0, a1, b0, b1⟩ := hB
      obtain ⟨y1, m1, d1, h1⟩ := isDate_of b a0
      obtain ⟨y2, m2, d2, h2⟩ := isDate_of c b0
      exact dadds_e2 r a b c z g _ S _ w hv alive5 (fun W hW => days_out r a b r0 r2 (by omega) W hW.d) (fun W hW => days_in r y1 m1 d1 b y2 m2 d2 c _ r0 r4 h1 h2 a1 b1 rfl W hW.d) Z1 (fun W hW => frac_out r a b r0 r2 (by omega) W hW) (fun W hW => frac_in r y1 m1 d1 b y2 m2 d2 c _ r0 r4 h1 h2 a1 b1 rfl W hW) Z2
    · exact dadds_e1 r a b c z g S w hv alive5 (fun W hW => days_out r a b r0 r2 (by omega) W hW.d) (fun W hW => days_out r b c r0 r2 (by omega) W hW.d) Z1 (fun W hW => frac_out r a b r0 r2 (by omega) W hW) (fun W hW => frac_out r b c r0 r2 (by omega) W hW) Z2
end Go.Proofs.YtpgfadkkfofhcaaGreatDoor

/- The walk of the law DaycountSigns. -/
import Derived.Test.YtpgfadkkfofhcaaGreatDoorDcJ
import Derived.Test.YtpgfadkkfofhcaaGreatDoorDcK
namespace Go.Proofs.YtpgfadkkfofhcaaGreatDoor
open Go Go.RowKit

set_option maxRecDepth 100000 in
set_option maxHeartbeats 3200000 in
theorem dsigns_err (r a b : Int) (w : World) (hv : VarF w)
    (H1 : ∀ W, VarF W → Calls Tryz.prog 12 #[] W (BolR true W))
    (H2 : ∀ W, VarF W → Calls Tryz.prog 10 #[.int .u8 r, .int .i64 a, .int .i64 b] W (DysR 0 2 W))
    (H3 : ∀ W, VarF W → Calls Tryz.prog 10 #[.int .u8 r, .int .i64 b, .int .i64 a] W (DysR 0 2 W))
    (H4 : ∀ W, VarF W → Calls Tryz.prog 9 #[.int .u8 r, .int .i64 a, .int .i64 b] W (StE ⟨#[]⟩ 2 W))
    (H5 : ∀ W, VarF W → Calls Tryz.prog 9 #[.int .u8 r, .int .i64 b, .int .i64 a] W (StE ⟨#[]⟩ 2 W)) :
    Calls Tryz.prog 6 #[.int .u8 r, .int .i64 a, .int .i64 b] w fun e w' => e = .returned (.bool true) ∧ Below w.heap.size w w' := by
  have HV := Lib.hid hv
  have B0 := Lib.hid (Below.refl w.heap.size w)
  have C1 := Lib.hid H1
  have C2 := Lib.hid H2
  have C3 := Lib.hid H3
  have C4 := Lib.hid H4
  have C5 := Lib.hid H5
  clear hv H1 H2 H3 H4 H5
  go_enter Tryz.func6, Tryz.ntmps6
  go_wp2_with (first
    | (go_at_call 12; ((with_reducible refine (C1.out _ (HV.out.below B0.out)).mono ?_); rintro e w1 ⟨rfl, b⟩; have B1 := Lib.hid (btE B0.out b); clear b))
    | (go_at_call 10; ((with_reducible refine (C2.out _ (HV.out.below B1.out)).mono ?_); rintro e w2 ⟨rfl, b⟩; have B2 := Lib.hid (btE B1.out b); clear b))
    | (go_at_call 10; ((with_reducible refine (C3.out _ (HV.out.below B2.out)).mono ?_); rintro e w3 ⟨rfl, b⟩; have B3 := Lib.hid (btE B2.out b); clear b))
    | (go_at_call 9; ((with_reducible refine (C4.out _ (HV.out.below B3.out)).mono ?_); rintro e w4 ⟨rfl, b⟩; have B4 := Lib.hid (btE B3.out b); clear b))
    | (go_at_call 9; ((with_reducible refine (C5.out _ (HV.out.below B4.out)).mono ?_); rintro e w5 ⟨rfl, b⟩; have B5 := Lib.hid (btE B4.out b); clear b)))
  go_ret
  exact ⟨ret_boolD (by simp), B5.out⟩
set_option maxRecDepth 100000 in
set_option maxHeartbeats 3200000 in
theorem dsigns_two (r a b x y : Int) (P Q : ByteArray) (w : World) (hv : VarF w)
    (hne2 : (a != b) = true) (hy : (x == -y) = true) (y0 : -100000 ≤ y) (y1 : y ≤ 100000)
    (H1 : ∀ W, VarF W → Calls Tryz.prog 12 #[] W (BolR true W))
    (H2 : ∀ W, VarF W → Calls Tryz.prog 10 #[.int .u8 r, .int .i64 a, .int .i64 b] W (DysR x 0 W))
    (H3 : ∀ W, VarF W → Calls Tryz.prog 10 #[.int .u8 r, .int .i64 b, .int .i64 a] W (DysR y 0 W))
    (H4 : ∀ W, VarF W → Calls Tryz.prog 9 #[.int .u8 r, .int .i64 a, .int .i64 b] W (StE P 0 W))
    (H5 : ∀ W, VarF W → Calls Tryz.prog 9 #[.int .u8 r, .int .i64 b, .int .i64 a] W (StE Q 0 W))
    (H6 : ∀ W, VarF W → Calls Tryz.prog 14 #[.string P, .string Q] W (StE ⟨#[48]⟩ 0 W)) :
    Calls Tryz.prog 6 #[.int .u8 r, .int .i64 a, .int .i64 b] w fun e w' => e = .returned (.bool true) ∧ Below w.heap.size w w' := by
  have HV := Lib.hid hv
  have B0 := Lib.hid (Below.refl w.heap.size w)
  have C1 := Lib.hid H1
  have C2 := Lib.hid H2
  have C3 := Lib.hid H3
  have C4 := Lib.hid H4
  have C5 := Lib.hid H5
  have C6 := Lib.hid H6
  clear hv H1 H2 H3 H4 H5 H6
  go_enter Tryz.func6, Tryz.ntmps6
  go_wp2_with (first
    | (go_at_call 12; ((with_reducible refine (C1.out _ (HV.out.below B0.out)).mono ?_); rintro e w1 ⟨rfl, b⟩; have B1 := Lib.hid (btE B0.out b); clear b))
    | (go_at_call 10; ((with_reducible refine (C2.out _ (HV.out.below B1.out)).mono ?_); rintro e w2 ⟨rfl, b⟩; have B2 := Lib.hid (btE B1.out b); clear b))
    | (go_at_call 10; ((with_reducible refine (C3.out _ (HV.out.below B2.out)).mono ?_); rintro e w3 ⟨rfl, b⟩; have B3 := Lib.hid (btE B2.out b); clear b))
    | (go_at_call 9; ((with_reducible refine (C4.out _ (HV.out.below B3.out)).mono ?_); rintro e w4 ⟨rfl, b⟩; have B4 := Lib.hid (btE B3.out b); clear b))
    | (go_at_call 9; ((with_reducible refine (C5.out _ (HV.out.below B4.out)).mono ?_); rintro e w5 ⟨rfl, b⟩; have B5 := Lib.hid (btE B4.out b); clear b))
    | (go_at_call 14; ((with_reducible refine (C6.out _ (HV.out.below B5.out)).mono ?_); rintro e w6 ⟨rfl, b⟩; have B6 := Lib.hid (btE B5.out b); clear b)))
  go_ret
  exact ⟨ret_boolD (by simp), B6.out⟩
set_option maxRecDepth 100000 in
set_option maxHeartbeats 3200000 in
theorem dsigns_same (r a : Int) (w : World) (hv : VarF w)
    (H1 : ∀ W, VarF W → Calls Tryz.prog 12 #[] W (BolR true W))
    (H2 : ∀ W, VarF W → Calls Tryz.prog 10 #[.int .u8 r, .int .i64 a, .int .i64 a] W (DysR 0 0 W))
    (H3 : ∀ W, VarF W → Calls Tryz.prog 10 #[.int .u8 r, .int .i64 a, .int .i64 a] W (DysR 0 0 W))
    (H4 : ∀ W, VarF W → Calls Tryz.prog 9 #[.int .u8 r, .int .i64 a, .int .i64 a] W (StE ⟨#[48]⟩ 0 W))
    (H5 : ∀ W, VarF W → Calls Tryz.prog 9 #[.int .u8 r, .int .i64 a, .int .i64 a] W (StE ⟨#[48]⟩ 0 W))
    (H6 : ∀ W, VarF W → Calls Tryz.prog 14 #[.string ⟨#[48]⟩, .string ⟨#[48]⟩] W (StE ⟨#[48]⟩ 0 W)) :
    Calls Tryz.prog 6 #[.int .u8 r, .int .i64 a, .int .i64 a] w fun e w' => e = .returned (.bool true) ∧ Below w.heap.size w w' := by
  have HV := Lib.hid hv
  have B0 := Lib.hid (Below.refl w.heap.size w)
  have C1 := Lib.hid H1
  have C2 := Lib.hid H2
  have C3 := Lib.hid H3
  have C4 := Lib.hid H4
  have C5 := Lib.hid H5
  have C6 := Lib.hid H6
  clear hv H1 H2 H3 H4 H5 H6
  go_enter Tryz.func6, Tryz.ntmps6
  go_wp2_with (first
    | (go_at_call 12; ((with_reducible refine (C1.out _ (HV.out.below B0.out)).mono ?_); rintro e w1 ⟨rfl, b⟩; have B1 := Lib.hid (btE B0.out b); clear b))
    | (go_at_call 10; ((with_reducible refine (C2.out _ (HV.out.below B1.out)).mono ?_); rintro e w2 ⟨rfl, b⟩; have B2 := Lib.hid (btE B1.out b); clear b))
    | (go_at_call 10; ((with_reducible refine (C3.out _ (HV.out.below B2.out)).mono ?_); rintro e w3 ⟨rfl, b⟩; have B3 := Lib.hid (btE B2.out b); clear b))
    | (go_at_call 9; ((with_reducible refine (C4.out _ (HV.out.below B3.out)).mono ?_); rintro e w4 ⟨rfl, b⟩; have B4 := Lib.hid (btE B3.out b); clear b))
    | (go_at_call 9; ((with_reducible refine (C5.out _ (HV.out.below B4.out)).mono ?_); rintro e w5 ⟨rfl, b⟩; have B5 := Lib.hid (btE B4.out b); clear b))
    | (go_at_call 14; ((with_reducible refine (C6.out _ (HV.out.below B5.out)).mono ?_); rintro e w6 ⟨rfl, b⟩; have B6 := Lib.hid (btE B5.out b); clear b)))
  go_ret
  exact ⟨ret_boolD (by simp), B6.out⟩
theorem rq0 : rq 0 = ⟨#[48]⟩ := by decide +kernel
theorem dsigns_law (r a b : Int) (r0 : 0 ≤ r) (r2 : r ≤ 255) (w : World) (hv : VarF w) :
    Calls Tryz.prog 6 #[.int .u8 r, .int .i64 a, .int .i64 b] w fun e w' => e = .returned (.bool true) ∧ Below w.heap.size w w' := by
  by_cases hA : r ≤ 4 ∧ 0 ≤ a ∧ a ≤ 99999 ∧ 0 ≤ b ∧ b ≤ 99999
  · obtain ⟨r4, a0, a1, b0, b1⟩ := hA
    obtain ⟨y1, m1, d1, h1⟩ := isDate_of a a0
    obtain ⟨y2, m2, d2, h2⟩ := isDate_of b b0
    by_cases hab : a = b
    · subst hab
      clear h2
      have D1 := fun W (hW : VarF W) => days_in r y1 m1 d1 a y1 m1 d1 a _ r0 r4 h1 h1 a1 a1 rfl W hW.d
      have F1 := fun W (hW : VarF W) => frac_in r y1 m1 d1 a y1 m1 d1 a _ r0 r4 h1 h1 a1 a1 rfl W hW
      rw [dys_same] at D1
      rw [frQ_same, rq0] at F1
      exact dsigns_same r a w hv alive5 D1 D1 F1 F1 (fun W hW => radd_rq (qd_zero.sml (by decide)) (qd_zero.sml (by decide)) (addC_zero qd_zero qd_zero (by decide)) (Rat.add_zero 0) _ _ _ rq0 rq0 rq0 W hW.r)
    · have D1 := fun W (hW : VarF W) => days_in r y1 m1 d1 a y2 m2 d2 b _ r0 r4 h1 h2 a1 b1 rfl W hW.d
      have D2 := fun W (hW : VarF W) => days_in r y2 m2 d2 b y1 m1 d1 a _ r0 r4 h2 h1 b1 a1 rfl W hW.d
      have F1 := fun W (hW : VarF W) => frac_in r y1 m1 d1 a y2 m2 d2 b _ r0 r4 h1 h2 a1 b1 rfl W hW
      have F2 := fun W (hW : VarF W) => frac_in r y2 m2 d2 b y1 m1 d1 a _ r0 r4 h2 h1 b1 a1 rfl W hW
      have q1 := frQ_qd (r := r) h1 h2 a1 b1
      have q2 := frQ_qd (r := r) h2 h1 b1 a1
      have FA := fun W (hW : VarF W) => radd_rq (q1.sml (by decide)) (q2.sml (by decide)) (addC_zero q1 q2 (by decide)) (frQ_neg h1 h2) _ _ _ rfl rfl rq0 W hW.r
      have y := dys_bd (r := r) h2 h1 b1 a1
      exact dsigns_two r a b _ _ _ _ w hv (by rw [bne_iff_ne]; exact hab) (by rw [beq_iff_eq]; exact dys_neg h1 h2) y.1 y.2 alive5 D1 D2 F1 F2 FA
  · exact dsigns_err r a b w hv alive5 (fun W hW => days_out r a b r0 r2 (by omega) W hW.d) (fun W hW => days_out r b a r0 r2 (by omega) W hW.d) (fun W hW => frac_out r a b r0 r2 (by omega) W hW) (fun W hW => frac_out r b a r0 r2 (by omega) W hW)
end Go.Proofs.YtpgfadkkfofhcaaGreatDoor

/- The walk of the law DaycountNames. -/
import Derived.Test.YtpgfadkkfofhcaaGreatDoorDcJ
namespace Go.Proofs.YtpgfadkkfofhcaaGreatDoor
open Go Go.RowKit

theorem dn_d1 (w : World) (hv : VarF w) : Calls Tryz.prog 10 #[.int .u8 4, .int .i64 45304, .int .i64 45502] w (DysR 196 0 w) :=
  days_in 4 2024 1 15 45304 2024 7 31 45502 _ (by decide) (by decide) (isDateE (by decide +kernel)) (isDateE (by decide +kernel)) (by decide) (by decide) (by decide +kernel) w hv.d
theorem dn_d2 (w : World) (hv : VarF w) : Calls Tryz.prog 10 #[.int .u8 4, .int .i64 45502, .int .i64 45304] w (DysR (-196) 0 w) :=
  days_in 4 2024 7 31 45502 2024 1 15 45304 _ (by decide) (by decide) (isDateE (by decide +kernel)) (isDateE (by decide +kernel)) (by decide) (by decide) (by decide +kernel) w hv.d
theorem dn_d3 (w : World) (hv : VarF w) : Calls Tryz.prog 10 #[.int .u8 2, .int .i64 45349, .int .i64 45350] w (DysR 2 0 w) :=
  days_in 2 2024 2 29 45349 2024 3 1 45350 _ (by decide) (by decide) (isDateE (by decide +kernel)) (isDateE (by decide +kernel)) (by decide) (by decide) (by decide +kernel) w hv.d
theorem dn_g1 (w : World) (hv : VarF w) : Calls Tryz.prog 11 #[.int .u8 3, .int .i64 0, .int .i64 36524, .string ⟨#[49, 48, 48]⟩] w (BolR true w) :=
  gives_in 3 1900 1 1 0 2000 1 1 36524 _ (by decide) (by decide) (isDateE (by decide +kernel)) (isDateE (by decide +kernel)) (by decide) (by decide) (by decide +kernel) w hv
theorem dn_g2 (w : World) (hv : VarF w) : Calls Tryz.prog 11 #[.int .u8 3, .int .i64 36524, .int .i64 0, .string ⟨#[45, 49, 48, 48]⟩] w (BolR true w) :=
  gives_in 3 2000 1 1 36524 1900 1 1 0 _ (by decide) (by decide) (isDateE (by decide +kernel)) (isDateE (by decide +kernel)) (by decide) (by decide) (by decide +kernel) w hv
theorem dn_g3 (w : World) (hv : VarF w) : Calls Tryz.prog 11 #[.int .u8 0, .int .i64 7, .int .i64 7, .string ⟨#[48]⟩] w (BolR true w) :=
  gives_in 0 1900 1 8 7 1900 1 8 7 _ (by decide) (by decide) (isDateE (by decide +kernel)) (isDateE (by decide +kernel)) (by decide) (by decide) (by decide +kernel) w hv
theorem dn_g4 (w : World) (hv : VarF w) : Calls Tryz.prog 11 #[.int .u8 2, .int .i64 0, .int .i64 99999, .string ⟨#[50, 52, 54, 52, 49, 47, 57, 48]⟩] w (BolR true w) :=
  gives_in 2 1900 1 1 0 2173 10 15 99999 _ (by decide) (by decide) (isDateE (by decide +kernel)) (isDateE (by decide +kernel)) (by decide) (by decide) (by decide +kernel) w hv
set_option maxRecDepth 100000 in
set_option maxHeartbeats 3200000 in
theorem dnames_walk  (w : World) (hv : VarF w)
    (H1 : ∀ W, VarF W → Calls Tryz.prog 9 #[.int .u8 5, .int .i64 0, .int .i64 1] W (StE ⟨#[]⟩ 2 W))
    (H2 : ∀ W, VarF W → Calls Tryz.prog 10 #[.int .u8 0, .int .i64 (-1), .int .i64 1] W (DysR 0 2 W))
    (H3 : ∀ W, VarF W → Calls Tryz.prog 10 #[.int .u8 0, .int .i64 1, .int .i64 100000] W (DysR 0 2 W))
    (H4 : ∀ W, VarF W → Calls Tryz.prog 10 #[.int .u8 4, .int .i64 45304, .int .i64 45502] W (DysR 196 0 W))
    (H5 : ∀ W, VarF W → Calls Tryz.prog 10 #[.int .u8 4, .int .i64 45502, .int .i64 45304] W (DysR (-196) 0 W))
    (H6 : ∀ W, VarF W → Calls Tryz.prog 10 #[.int .u8 2, .int .i64 45349, .int .i64 45350] W (DysR 2 0 W))
    (H7 : ∀ W, VarF W → Calls Tryz.prog 11 #[.int .u8 3, .int .i64 0, .int .i64 36524, .string ⟨#[49, 48, 48]⟩] W (BolR true W))
    (H8 : ∀ W, VarF W → Calls Tryz.prog 11 #[.int .u8 3, .int .i64 36524, .int .i64 0, .string ⟨#[45, 49, 48, 48]⟩] W (BolR true W))
    (H9 : ∀ W, VarF W → Calls Tryz.prog 11 #[.int .u8 0, .int .i64 7, .int .i64 7, .string ⟨#[48]⟩] W (BolR true W))
    (H10 : ∀ W, VarF W → Calls Tryz.prog 11 #[.int .u8 2, .int .i64 0, .int .i64 99999, .string ⟨#[50, 52, 54, 52, 49, 47, 57, 48]⟩] W (BolR true W))
    (H11 : ∀ W, VarF W → Calls Tryz.prog 12 #[] W (BolR true W)) :
    Calls Tryz.prog 3 #[] w fun e w' => e = .returned (.bool true) ∧ Below w.heap.size w w' := by
  have HV := Lib.hid hv
  have B0 := Lib.hid (Below.refl w.heap.size w)
  have C1 := Lib.hid H1
  have C2 := Lib.hid H2
  have C3 := Lib.hid H3
  have C4 := Lib.hid H4
  have C5 := Lib.hid H5
  have C6 := Lib.hid H6
  have C7 := Lib.hid H7
  have C8 := Lib.hid H8
  have C9 := Lib.hid H9
  have C10 := Lib.hid H10
  have C11 := Lib.hid H11
  clear hv H1 H2 H3 H4 H5 H6 H7 H8 H9 H10 H11
  go_enter Tryz.func3, Tryz.ntmps3
  go_wp2_with (first
    | (go_at_call 9; ((with_reducible refine (C1.out _ (HV.out.below B0.out)).mono ?_); rintro e w1 ⟨rfl, b⟩; have B1 := Lib.hid (btE B0.out b); clear b))
    | (go_at_call 10; ((with_reducible refine (C2.out _ (HV.out.below B1.out)).mono ?_); rintro e w2 ⟨rfl, b⟩; have B2 := Lib.hid (btE B1.out b); clear b))
    | (go_at_call 10; ((with_reducible refine (C3.out _ (HV.out.below B2.out)).mono ?_); rintro e w3 ⟨rfl, b⟩; have B3 := Lib.hid (btE B2.out b); clear b))
    | (go_at_call 10; ((with_reducible refine (C4.out _ (HV.out.below B3.out)).mono ?_); rintro e w4 ⟨rfl, b⟩; have B4 := Lib.hid (btE B3.out b); clear b))
    | (go_at_call 10; ((with_reducible refine (C5.out _ (HV.out.below B4.out)).mono ?_); rintro e w5 ⟨rfl, b⟩; have B5 := Lib.hid (btE B4.out b); clear b))
    | (go_at_call 10; ((with_reducible refine (C6.out _ (HV.out.below B5.out)).mono ?_); rintro e w6 ⟨rfl, b⟩; have B6 := Lib.hid (btE B5.out b); clear b))
    | (go_at_call 11; ((with_reducible refine (C7.out _ (HV.out.below B6.out)).mono ?_); rintro e w7 ⟨rfl, b⟩; have B7 := Lib.hid (btE B6.out b); clear b))
    | (go_at_call 11; ((with_reducible refine (C8.out _ (HV.out.below B7.out)).mono ?_); rintro e w8 ⟨rfl, b⟩; have B8 := Lib.hid (btE B7.out b); clear b))
    | (go_at_call 11; ((with_reducible refine (C9.out _ (HV.out.below B8.out)).mono ?_); rintro e w9 ⟨rfl, b⟩; have B9 := Lib.hid (btE B8.out b); clear b))
    | (go_at_call 11; ((with_reducible refine (C10.out _ (HV.out.below B9.out)).mono ?_); rintro e w10 ⟨rfl, b⟩; have B10 := Lib.hid (btE B9.out b); clear b))
    | (go_at_call 12; ((with_reducible refine (C11.out _ (HV.out.below B10.out)).mono ?_); rintro e w11 ⟨rfl, b⟩; have B11 := Lib.hid (btE B10.out b); clear b)))
  go_ret
  exact ⟨ret_boolD (by simp), B11.out⟩
theorem dnames_law (w : World) (hv : VarF w) :
    Calls Tryz.prog 3 #[] w fun e w' => e = .returned (.bool true) ∧ Below w.heap.size w w' :=
  dnames_walk w hv (fun W hW => frac_out 5 0 1 (by decide) (by decide) (by decide) W hW) (fun W hW => days_out 0 (-1) 1 (by decide) (by decide) (by decide) W hW.d) (fun W hW => days_out 0 1 100000 (by decide) (by decide) (by decide) W hW.d) dn_d1 dn_d2 dn_d3 dn_g1 dn_g2 dn_g3 dn_g4 alive5
end Go.Proofs.YtpgfadkkfofhcaaGreatDoor

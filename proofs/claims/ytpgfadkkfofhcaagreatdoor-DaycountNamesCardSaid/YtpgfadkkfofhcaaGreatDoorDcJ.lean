/- Layer 5: the law's helpers: gives, alive. -/
import Derived.Test.YtpgfadkkfofhcaaGreatDoorDcG
namespace Go.Proofs.YtpgfadkkfofhcaaGreatDoor
open Go Go.RowKit

theorem isDateE {y m d n : Int} (h : (decide (1900 ≤ y) && decide (1 ≤ m) && decide (m ≤ 12) && decide (1 ≤ d) && decide (d ≤ mlen y m) && decide (n + 1 = foy y + mo y (m - 1).toNat + d)) = true) : IsDate y m d n := by
  simp only [Bool.and_eq_true, decide_eq_true_eq] at h
  obtain ⟨⟨⟨⟨⟨a, b⟩, c⟩, d⟩, e⟩, f⟩ := h
  exact ⟨a, b, c, d, e, f⟩
def BolR (b : Bool) (w : World) (e : Ending) (w' : World) : Prop := e = .returned (.bool b) ∧ Below w.heap.size w w'
set_option maxRecDepth 100000 in
set_option maxHeartbeats 1600000 in
theorem gives_walk (r n1 n2 : Int) (s : ByteArray) (w : World)
    (H : Calls Tryz.prog 9 #[.int .u8 r, .int .i64 n1, .int .i64 n2] w (StE s 0 w)) :
    Calls Tryz.prog 11 #[.int .u8 r, .int .i64 n1, .int .i64 n2, .string s] w (BolR true w) := by
  have J := Lib.hid H
  clear H
  go_enter Tryz.func11, Tryz.ntmps11
  go_wp2_with (go_at_call 9; ((with_reducible refine J.out.mono ?_); rintro e w1 ⟨rfl, b⟩; have B1 := Lib.hid b; clear b))
  go_ret
  exact ⟨ret_boolD (by simp), B1.out⟩
theorem gives_in (r y1 m1 d1 n1 y2 m2 d2 n2 : Int) (s : ByteArray) (r0 : 0 ≤ r) (r4 : r ≤ 4) (h1 : IsDate y1 m1 d1 n1) (h2 : IsDate y2 m2 d2 n2) (b1 : n1 ≤ 99999) (b2 : n2 ≤ 99999) (hs : rq (frQ r y1 m1 d1 n1 y2 m2 d2 n2) = s) (w : World) (hv : VarF w) :
    Calls Tryz.prog 11 #[.int .u8 r, .int .i64 n1, .int .i64 n2, .string s] w (BolR true w) :=
  gives_walk r n1 n2 s w (by rw [← hs]; exact frac_in r y1 m1 d1 n1 y2 m2 d2 n2 _ r0 r4 h1 h2 b1 b2 rfl w hv)

theorem al_1 (w : World) (hv : VarF w) : Calls Tryz.prog 11 #[.int .u8 0, .int .i64 45320, .int .i64 45502, .string ⟨#[49, 56, 50, 47, 51, 54, 53]⟩] w (BolR true w) :=
  gives_in 0 2024 1 31 45320 2024 7 31 45502 _ (by decide) (by decide) (isDateE (by decide +kernel)) (isDateE (by decide +kernel)) (by decide) (by decide) (by decide +kernel) w hv
theorem al_2 (w : World) (hv : VarF w) : Calls Tryz.prog 11 #[.int .u8 1, .int .i64 45320, .int .i64 45502, .string ⟨#[57, 49, 47, 49, 56, 48]⟩] w (BolR true w) :=
  gives_in 1 2024 1 31 45320 2024 7 31 45502 _ (by decide) (by decide) (isDateE (by decide +kernel)) (isDateE (by decide +kernel)) (by decide) (by decide) (by decide +kernel) w hv
theorem al_3 (w : World) (hv : VarF w) : Calls Tryz.prog 11 #[.int .u8 2, .int .i64 45320, .int .i64 45502, .string ⟨#[49, 47, 50]⟩] w (BolR true w) :=
  gives_in 2 2024 1 31 45320 2024 7 31 45502 _ (by decide) (by decide) (isDateE (by decide +kernel)) (isDateE (by decide +kernel)) (by decide) (by decide) (by decide +kernel) w hv
theorem al_4 (w : World) (hv : VarF w) : Calls Tryz.prog 11 #[.int .u8 4, .int .i64 45320, .int .i64 45502, .string ⟨#[49, 47, 50]⟩] w (BolR true w) :=
  gives_in 4 2024 1 31 45320 2024 7 31 45502 _ (by decide) (by decide) (isDateE (by decide +kernel)) (isDateE (by decide +kernel)) (by decide) (by decide) (by decide +kernel) w hv
theorem al_5 (w : World) (hv : VarF w) : Calls Tryz.prog 11 #[.int .u8 3, .int .i64 45320, .int .i64 45502, .string ⟨#[57, 49, 47, 49, 56, 51]⟩] w (BolR true w) :=
  gives_in 3 2024 1 31 45320 2024 7 31 45502 _ (by decide) (by decide) (isDateE (by decide +kernel)) (isDateE (by decide +kernel)) (by decide) (by decide) (by decide +kernel) w hv
theorem al_6 (w : World) (hv : VarF w) : Calls Tryz.prog 11 #[.int .u8 2, .int .i64 45304, .int .i64 45502, .string ⟨#[49, 51, 47, 50, 52]⟩] w (BolR true w) :=
  gives_in 2 2024 1 15 45304 2024 7 31 45502 _ (by decide) (by decide) (isDateE (by decide +kernel)) (isDateE (by decide +kernel)) (by decide) (by decide) (by decide +kernel) w hv
theorem al_7 (w : World) (hv : VarF w) : Calls Tryz.prog 11 #[.int .u8 4, .int .i64 45304, .int .i64 45502, .string ⟨#[52, 57, 47, 57, 48]⟩] w (BolR true w) :=
  gives_in 4 2024 1 15 45304 2024 7 31 45502 _ (by decide) (by decide) (isDateE (by decide +kernel)) (isDateE (by decide +kernel)) (by decide) (by decide) (by decide +kernel) w hv
theorem al_8 (w : World) (hv : VarF w) : Calls Tryz.prog 11 #[.int .u8 3, .int .i64 45106, .int .i64 45472, .string ⟨#[54, 54, 56, 56, 55, 47, 54, 54, 55, 57, 53]⟩] w (BolR true w) :=
  gives_in 3 2023 7 1 45106 2024 7 1 45472 _ (by decide) (by decide) (isDateE (by decide +kernel)) (isDateE (by decide +kernel)) (by decide) (by decide) (by decide +kernel) w hv
set_option maxRecDepth 100000 in
set_option maxHeartbeats 3200000 in
theorem alive5 (w : World) (hv : VarF w) : Calls Tryz.prog 12 #[] w (BolR true w) := by
  have HV := Lib.hid hv
  have B0 := Lib.hid (Below.refl w.heap.size w)
  have C1 := Lib.hid al_1
  have C2 := Lib.hid al_2
  have C3 := Lib.hid al_3
  have C4 := Lib.hid al_4
  have C5 := Lib.hid al_5
  have C6 := Lib.hid al_6
  have C7 := Lib.hid al_7
  have C8 := Lib.hid al_8
  clear hv
  go_enter Tryz.func12, Tryz.ntmps12
  go_wp2_with (first
    | (go_at_call 11; ((with_reducible refine (C1.out _ (HV.out.below B0.out)).mono ?_); rintro e w1 ⟨rfl, b⟩; have B1 := Lib.hid (btE B0.out b); clear b))
    | (go_at_call 11; ((with_reducible refine (C2.out _ (HV.out.below B1.out)).mono ?_); rintro e w2 ⟨rfl, b⟩; have B2 := Lib.hid (btE B1.out b); clear b))
    | (go_at_call 11; ((with_reducible refine (C3.out _ (HV.out.below B2.out)).mono ?_); rintro e w3 ⟨rfl, b⟩; have B3 := Lib.hid (btE B2.out b); clear b))
    | (go_at_call 11; ((with_reducible refine (C4.out _ (HV.out.below B3.out)).mono ?_); rintro e w4 ⟨rfl, b⟩; have B4 := Lib.hid (btE B3.out b); clear b))
    | (go_at_call 11; ((with_reducible refine (C5.out _ (HV.out.below B4.out)).mono ?_); rintro e w5 ⟨rfl, b⟩; have B5 := Lib.hid (btE B4.out b); clear b))
    | (go_at_call 11; ((with_reducible refine (C6.out _ (HV.out.below B5.out)).mono ?_); rintro e w6 ⟨rfl, b⟩; have B6 := Lib.hid (btE B5.out b); clear b))
    | (go_at_call 11; ((with_reducible refine (C7.out _ (HV.out.below B6.out)).mono ?_); rintro e w7 ⟨rfl, b⟩; have B7 := Lib.hid (btE B6.out b); clear b))
    | (go_at_call 11; ((with_reducible refine (C8.out _ (HV.out.below B7.out)).mono ?_); rintro e w8 ⟨rfl, b⟩; have B8 := Lib.hid (btE B7.out b); clear b)))
  go_ret
  exact ⟨rfl, B8.out⟩
end Go.Proofs.YtpgfadkkfofhcaaGreatDoor

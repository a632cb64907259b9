/- The walk of the law DateNames. -/
import Derived.Test.YteigcgncbkjmaaaDoorDatI
namespace Go.Proofs.YteigcgncbkjmaaaDoor
open Go Go.RowKit

theorem leap_at (y : Int) (b : Bool) (h : leapB y = b) (w : World) :
    Calls Tryd.prog 18 #[.int .i64 y] w fun e w' => e = .returned (.bool b) ∧ w = w' := by rw [← h]; exact leap_any y w
theorem length2_at (y m v : Int) (h : ymB y m = true) (hv' : mlen y m = v) (w : World) (hv : VarD w) :
    Calls Tryd.prog 16 #[.int .i64 y, .int .i64 m] w fun e w' => e = .returned (.tuple #[.int .i64 v, .int .i64 0]) ∧ w = w' := by rw [← hv']; exact length2_ok y m h w hv

set_option maxRecDepth 100000 in
set_option maxHeartbeats 3200000 in
theorem names_law (w : World) (hv : VarS w) :
    Calls Tryd.prog 3 #[] w fun e w' => e = .returned (.bool true) ∧ Below w.heap.size w w' := by
  have HV := Lib.hid hv
  have C1 := Lib.hid (parts4_in 2173 10 15 99999 (isDate_mk (by decide +kernel)) (by decide) w hv.d)
  have C2 := Lib.hid (of_at 1900 1 1 0 0 (by decide +kernel) (by decide +kernel) w hv.d)
  have C3 := Lib.hid (of_at 2173 10 16 0 2 (by decide +kernel) (by decide +kernel) w hv.d)
  have C4 := Lib.hid (of_at 1899 12 31 0 2 (by decide +kernel) (by decide +kernel) w hv.d)
  have C5 := Lib.hid (of_at 1900 2 29 0 2 (by decide +kernel) (by decide +kernel) w hv.d)
  have C6 := Lib.hid (of_at 2000 2 29 36583 0 (by decide +kernel) (by decide +kernel) w hv.d)
  have C7 := Lib.hid (parts4_out (-1) (by decide) w)
  have C8 := Lib.hid (weekday_out 100000 (by decide) w)
  have C9 := Lib.hid (addMonths_at 1900 1 1 0 (-1) 0 40 false (isDate_mk (by decide +kernel)) (by decide) (by decide) (by decide) (by decide +kernel) (by decide +kernel) w hv.d)
  have C10 := Lib.hid (addMonths_at 2173 10 15 99999 1 0 40 false (isDate_mk (by decide +kernel)) (by decide) (by decide) (by decide) (by decide +kernel) (by decide +kernel) w hv.d)
  have C11 := Lib.hid (addMonths_out 5 4001 false (by decide) w)
  have C12 := Lib.hid (addMonths_out (-1) 0 false (by decide) w)
  have C13 := Lib.hid (addMonths_at 1900 1 31 30 0 30 0 true (isDate_mk (by decide +kernel)) (by decide) (by decide) (by decide) (by decide +kernel) (by decide +kernel) w hv.d)
  have C14 := Lib.hid (length2_bad 2173 13 (by decide +kernel) w)
  have C15 := Lib.hid (length2_bad 2174 1 (by decide +kernel) w)
  have C16 := Lib.hid (length2_at 2100 2 28 (by decide +kernel) (by decide) w hv.d)
  have C17 := Lib.hid (fun w1 h => parse_at ⟨#[50, 48, 50, 52, 45, 50, 45, 48, 50, 57]⟩ 0 12 (by decide +kernel) (by decide +kernel) w1 h)
  have C18 := Lib.hid (fun w1 h => parse_at ⟨#[50, 48, 50, 52, 45, 48, 50, 45, 50, 120]⟩ 0 12 (by decide +kernel) (by decide +kernel) w1 h)
  have C19 := Lib.hid (fun w1 h => parse_at ⟨#[48, 48, 48, 48, 45, 48, 48, 45, 48, 48]⟩ 0 2 (by decide +kernel) (by decide +kernel) w1 h)
  have C20 := Lib.hid (fun w1 h => parse_at ⟨#[50, 49, 55, 51, 45, 49, 48, 45, 49, 53]⟩ 99999 0 (by decide +kernel) (by decide +kernel) w1 h)
  have C21 := Lib.hid (fun w1 => leap_at (2000) true (by decide +kernel) w1)
  have C22 := Lib.hid (fun w1 => leap_at (1900) false (by decide +kernel) w1)
  have C23 := Lib.hid (fun w1 => leap_at (-4) true (by decide +kernel) w1)
  have C24 := Lib.hid (fun w1 => leap_at (-100) false (by decide +kernel) w1)
  have C25 := Lib.hid (fun w1 => leap_at (0) true (by decide +kernel) w1)
  have C26 := Lib.hid (fun w1 => leap_at (2023) false (by decide +kernel) w1)
  have C27 := Lib.hid (fun w1 h => alive_any w1 h)
  clear hv
  go_enter Tryd.func3, Tryd.ntmps3
  go_wp2_with (first
    | (go_at_call 12; ((with_reducible refine (C1.out).mono ?_); rintro e w1 ⟨rfl, rfl⟩))
    | (go_at_call 13; ((with_reducible refine (C2.out).mono ?_); rintro e w1 ⟨rfl, rfl⟩))
    | (go_at_call 13; ((with_reducible refine (C3.out).mono ?_); rintro e w1 ⟨rfl, rfl⟩))
    | (go_at_call 13; ((with_reducible refine (C4.out).mono ?_); rintro e w1 ⟨rfl, rfl⟩))
    | (go_at_call 13; ((with_reducible refine (C5.out).mono ?_); rintro e w1 ⟨rfl, rfl⟩))
    | (go_at_call 13; ((with_reducible refine (C6.out).mono ?_); rintro e w1 ⟨rfl, rfl⟩))
    | (go_at_call 12; ((with_reducible refine (C7.out).mono ?_); rintro e w1 ⟨rfl, rfl⟩))
    | (go_at_call 14; ((with_reducible refine (C8.out).mono ?_); rintro e w1 ⟨rfl, rfl⟩))
    | (go_at_call 15; ((with_reducible refine (C9.out).mono ?_); rintro e w1 ⟨rfl, rfl⟩))
    | (go_at_call 15; ((with_reducible refine (C10.out).mono ?_); rintro e w1 ⟨rfl, rfl⟩))
    | (go_at_call 15; ((with_reducible refine (C11.out).mono ?_); rintro e w1 ⟨rfl, rfl⟩))
    | (go_at_call 15; ((with_reducible refine (C12.out).mono ?_); rintro e w1 ⟨rfl, rfl⟩))
    | (go_at_call 15; ((with_reducible refine (C13.out).mono ?_); rintro e w1 ⟨rfl, rfl⟩))
    | (go_at_call 16; ((with_reducible refine (C14.out).mono ?_); rintro e w1 ⟨rfl, rfl⟩))
    | (go_at_call 16; ((with_reducible refine (C15.out).mono ?_); rintro e w1 ⟨rfl, rfl⟩))
    | (go_at_call 16; ((with_reducible refine (C16.out).mono ?_); rintro e w1 ⟨rfl, rfl⟩))
    | (go_at_call 17; ((with_reducible refine (C17.out _ HV.out.d).mono ?_); rintro e w1 ⟨rfl, b⟩; have B1 := Lib.hid b; clear b))
    | (go_at_call 17; ((with_reducible refine (C18.out _ (HV.out.below B1.out).d).mono ?_); rintro e w2 ⟨rfl, b⟩; have B2 := Lib.hid (bt B1.out b); clear b))
    | (go_at_call 17; ((with_reducible refine (C19.out _ (HV.out.below B2.out).d).mono ?_); rintro e w3 ⟨rfl, b⟩; have B3 := Lib.hid (bt B2.out b); clear b))
    | (go_at_call 17; ((with_reducible refine (C20.out _ (HV.out.below B3.out).d).mono ?_); rintro e w4 ⟨rfl, b⟩; have B4 := Lib.hid (bt B3.out b); clear b))
    | (go_at_call 18; ((with_reducible refine (C21.out _).mono ?_); rintro e w9 ⟨rfl, rfl⟩))
    | (go_at_call 18; ((with_reducible refine (C22.out _).mono ?_); rintro e w9 ⟨rfl, rfl⟩))
    | (go_at_call 18; ((with_reducible refine (C23.out _).mono ?_); rintro e w9 ⟨rfl, rfl⟩))
    | (go_at_call 18; ((with_reducible refine (C24.out _).mono ?_); rintro e w9 ⟨rfl, rfl⟩))
    | (go_at_call 18; ((with_reducible refine (C25.out _).mono ?_); rintro e w9 ⟨rfl, rfl⟩))
    | (go_at_call 18; ((with_reducible refine (C26.out _).mono ?_); rintro e w9 ⟨rfl, rfl⟩))
    | (go_at_call 19; ((with_reducible refine (C27.out _ (HV.out.below B4.out)).mono ?_); rintro e w5 ⟨rfl, b⟩; have B5 := Lib.hid (bt B4.out b); clear b)))
  go_ret
  exact ⟨rfl, B5.out⟩
end Go.Proofs.YteigcgncbkjmaaaDoor

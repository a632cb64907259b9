/- The walks of the laws DateTells and DateMonths. -/
import Derived.Test.YteigcgncbkjmaaaDoorDatE
namespace Go.Proofs.YteigcgncbkjmaaaDoor
open Go Go.RowKit

theorem parts4_both (n : Int) : ∃ a b c d : Int, (∀ w, VarD w → Calls Tryd.prog 12 #[.int .i64 n] w fun e w' => e = .returned (.tuple #[.int .i64 a, .int .i64 b, .int .i64 c, .int .i64 d]) ∧ w = w') ∧
    ∀ w, Calls Tryd.prog 21 #[.int .i64 n] w fun e w' => e = .returned (.tuple #[.int .i64 a, .int .i64 b, .int .i64 c, .int .i64 d]) ∧ w = w' := by
  by_cases h : 0 ≤ n ∧ n ≤ 99999
  · obtain ⟨Y, M, D, hd⟩ := isDate_of n h.1
    exact ⟨Y, M, D, 0, fun w hv => parts4_in Y M D n hd h.2 w hv, fun w => refParts_in Y M D n hd h.2 w⟩
  · exact ⟨0, 0, 0, 2, fun w _ => parts4_out n (by omega) w, fun w => refParts_out n (by omega) w⟩
theorem weekday_both (n : Int) : ∃ a d : Int, (∀ w, Calls Tryd.prog 14 #[.int .i64 n] w fun e w' => e = .returned (.tuple #[.int .i64 a, .int .i64 d]) ∧ w = w') ∧
    ∀ w, Calls Tryd.prog 22 #[.int .i64 n] w fun e w' => e = .returned (.tuple #[.int .i64 a, .int .i64 d]) ∧ w = w' := by
  by_cases h : 0 ≤ n ∧ n ≤ 99999
  · exact ⟨n % 7, 0, weekday_in n h.1 h.2, refWeekday_in n h.1 h.2⟩
  · exact ⟨0, 2, weekday_out n (by omega), refWeekday_out n (by omega)⟩
theorem addMonths_both (n k : Int) (b : Bool) : ∃ a d : Int, (∀ w, VarD w → Calls Tryd.prog 15 #[.int .i64 n, .int .i64 k, .bool b] w fun e w' => e = .returned (.tuple #[.int .i64 a, .int .i64 d]) ∧ w = w') ∧
    ∀ w, Calls Tryd.prog 25 #[.int .i64 n, .int .i64 k, .bool b] w fun e w' => e = .returned (.tuple #[.int .i64 a, .int .i64 d]) ∧ w = w' := by
  by_cases h : (0 ≤ n ∧ n ≤ 99999) ∧ -4000 ≤ k ∧ k ≤ 4000
  · obtain ⟨Y, M, D, hd⟩ := isDate_of n h.1.1
    exact ⟨_, _, fun w hv => addMonths_in Y M D n k b hd h.1.2 h.2.1 h.2.2 w hv, fun w => refAddMonths_in Y M D n k b hd h.1.2 h.2.1 h.2.2 w⟩
  · exact ⟨0, 2, fun w _ => addMonths_out n k b (by omega) w, fun w => refAddMonths_out n k b (by omega) w⟩

set_option maxRecDepth 100000 in
set_option maxHeartbeats 1600000 in
theorem tells_law (y m d n : Int) (w : World) (hv : VarD w) :
    Calls Tryd.prog 4 #[.int .i64 y, .int .i64 m, .int .i64 d, .int .i64 n] w fun e w' => e = .returned (.bool true) ∧ Below w.heap.size w w' := by
  have HO := Lib.hid (of_any y m d w hv)
  have RO := Lib.hid (refOf_any y m d)
  obtain ⟨p1, p2, p3, p4, hp, rp⟩ := parts4_both n
  have HP := Lib.hid (hp w hv)
  have RP := Lib.hid rp
  obtain ⟨x1, x2, hx, rx⟩ := weekday_both n
  have HX := Lib.hid hx
  have RX := Lib.hid rx
  have HN := Lib.hid (length2_any y m w hv)
  have RN := Lib.hid (refLength_any y m)
  have HL := Lib.hid (leap_any y)
  have RL := Lib.hid (refLeap_any y)
  clear hp rp hx rx hv
  generalize ofV y m d = v1 at *
  generalize ofE y m d = v2 at *
  generalize lnV y m = v3 at *
  generalize lnE y m = v4 at *
  generalize leapB y = v5 at *
  go_enter Tryd.func4, Tryd.ntmps4
  go_wp2_with (first
    | (go_at_call 13; ((with_reducible refine HO.out.mono ?_); rintro e w' ⟨rfl, rfl⟩))
    | (go_at_call 20; ((with_reducible refine (RO.out _).mono ?_); rintro e w' ⟨rfl, rfl⟩))
    | (go_at_call 12; ((with_reducible refine HP.out.mono ?_); rintro e w' ⟨rfl, rfl⟩))
    | (go_at_call 21; ((with_reducible refine (RP.out _).mono ?_); rintro e w' ⟨rfl, rfl⟩))
    | (go_at_call 14; ((with_reducible refine (HX.out _).mono ?_); rintro e w' ⟨rfl, rfl⟩))
    | (go_at_call 22; ((with_reducible refine (RX.out _).mono ?_); rintro e w' ⟨rfl, rfl⟩))
    | (go_at_call 16; ((with_reducible refine HN.out.mono ?_); rintro e w' ⟨rfl, rfl⟩))
    | (go_at_call 23; ((with_reducible refine (RN.out _).mono ?_); rintro e w' ⟨rfl, rfl⟩))
    | (go_at_call 18; ((with_reducible refine (HL.out _).mono ?_); rintro e w' ⟨rfl, rfl⟩))
    | (go_at_call 24; ((with_reducible refine (RL.out _).mono ?_); rintro e w' ⟨rfl, rfl⟩)))
  go_ret
  exact ⟨rfl, Below.refl _ _⟩

set_option maxRecDepth 100000 in
set_option maxHeartbeats 800000 in
theorem months_law (n k : Int) (b : Bool) (w : World) (hv : VarD w) :
    Calls Tryd.prog 5 #[.int .i64 n, .int .i64 k, .bool b] w fun e w' => e = .returned (.bool true) ∧ Below w.heap.size w w' := by
  obtain ⟨x1, x2, hx, rx⟩ := addMonths_both n k b
  have HX := Lib.hid (hx w hv)
  have RX := Lib.hid rx
  clear hx rx hv
  go_enter Tryd.func5, Tryd.ntmps5
  go_wp2_with (first
    | (go_at_call 15; ((with_reducible refine HX.out.mono ?_); rintro e w' ⟨rfl, rfl⟩))
    | (go_at_call 25; ((with_reducible refine (RX.out _).mono ?_); rintro e w' ⟨rfl, rfl⟩)))
  go_ret
  exact ⟨rfl, Below.refl _ _⟩
end Go.Proofs.YteigcgncbkjmaaaDoor

/- Layer 3: the chapter's examples hold: alive. -/
import Derived.Test.YteigcgncbkjmaaaDoorDatH
namespace Go.Proofs.YteigcgncbkjmaaaDoor
open Go Go.RowKit

theorem of_at (y m d v e : Int) (h1 : ofV y m d = v) (h2 : ofE y m d = e) (w : World) (hv : VarD w) :
    Calls Tryd.prog 13 #[.int .i64 y, .int .i64 m, .int .i64 d] w fun r w' => r = .returned (.tuple #[.int .i64 v, .int .i64 e]) ∧ w = w' := by
  rw [← h1, ← h2]; exact of_any y m d w hv
theorem addMonths_at (y m d n k v e : Int) (b : Bool) (h : IsDate y m d n) (hn : n ≤ 99999) (k0 : -4000 ≤ k) (k1 : k ≤ 4000) (h1 : amV y m d k b = v) (h2 : amE y m d k b = e) (w : World) (hv : VarD w) :
    Calls Tryd.prog 15 #[.int .i64 n, .int .i64 k, .bool b] w fun r w' => r = .returned (.tuple #[.int .i64 v, .int .i64 e]) ∧ w = w' := by
  rw [← h1, ← h2]; exact addMonths_in y m d n k b h hn k0 k1 w hv
theorem parse_at (s : ByteArray) (v e : Int) (h1 : paV s.data.toList = v) (h2 : paE s.data.toList = e) (w : World) (hv : VarD w) :
    Calls Tryd.prog 17 #[.string s] w fun r w' => r = .returned (.tuple #[.int .i64 v, .int .i64 e]) ∧ Below w.heap.size w w' := by
  rw [← h1, ← h2]; exact parse_any s w hv
theorem text_at (y m d n : Int) (l : List UInt8) (h : IsDate y m d n) (hn : n ≤ 99999) (h1 : txt y m d = l) (w : World) (hv : VarS w) :
    Calls Tryd.prog 26 #[.int .i64 n] w fun r w' => r = .returned (.tuple #[.string ⟨l.toArray⟩, .int .i64 0]) ∧ Below w.heap.size w w' := by
  rw [← h1]; exact text2_in y m d n h hn w hv
theorem weekday_at (n v : Int) (h0 : 0 ≤ n) (hn : n ≤ 99999) (h : n % 7 = v) (w : World) :
    Calls Tryd.prog 14 #[.int .i64 n] w fun r w' => r = .returned (.tuple #[.int .i64 v, .int .i64 0]) ∧ w = w' := by
  rw [← h]; exact weekday_in n h0 hn w
theorem isDate_mk {y m d n : Int} (h : (decide (1900 ≤ y) && decide (1 ≤ m) && decide (m ≤ 12) && decide (1 ≤ d) && decide (d ≤ mlen y m) && decide (n + 1 = foy y + mo y (m - 1).toNat + d)) = true) : IsDate y m d n := by
  simp only [Bool.and_eq_true, decide_eq_true_eq] at h
  obtain ⟨⟨⟨⟨⟨a, b⟩, c⟩, d⟩, e⟩, f⟩ := h
  exact ⟨a, b, c, d, e, f⟩

set_option maxRecDepth 100000 in
set_option maxHeartbeats 800000 in
theorem alive_any (w : World) (hv : VarS w) :
    Calls Tryd.prog 19 #[] w fun e w' => e = .returned (.bool true) ∧ Below w.heap.size w w' := by
  have HV := Lib.hid hv
  have C1 := Lib.hid (of_at 2026 11 16 46340 0 (by decide +kernel) (by decide +kernel) w hv.d)
  have C2 := Lib.hid (addMonths_at 2024 1 31 45320 1 45349 0 false (isDate_mk (by decide +kernel)) (by decide) (by decide) (by decide) (by decide +kernel) (by decide +kernel) w hv.d)
  have C3 := Lib.hid (addMonths_at 2024 2 29 45349 1 45378 0 false (isDate_mk (by decide +kernel)) (by decide) (by decide) (by decide) (by decide +kernel) (by decide +kernel) w hv.d)
  have C4 := Lib.hid (addMonths_at 2024 2 29 45349 1 45380 0 true (isDate_mk (by decide +kernel)) (by decide) (by decide) (by decide) (by decide +kernel) (by decide +kernel) w hv.d)
  have C5 := Lib.hid (weekday_at 46340 0 (by decide) (by decide) (by decide) w)
  have C6 := Lib.hid (parse_at ⟨#[50, 48, 50, 53, 45, 48, 50, 45, 50, 57]⟩ 0 2 (by decide +kernel) (by decide +kernel) w hv.d)
  have C7 := Lib.hid (fun w1 h => text_at 2024 2 29 45349 [50, 48, 50, 52, 45, 48, 50, 45, 50, 57] (isDate_mk (by decide +kernel)) (by decide) (by decide +kernel) w1 h)
  clear hv
  go_enter Tryd.func19, Tryd.ntmps19
  go_wp2_with (first
    | (go_at_call 13; ((with_reducible refine C1.out.mono ?_); rintro e w1 ⟨rfl, rfl⟩))
    | (go_at_call 15; ((with_reducible refine C2.out.mono ?_); rintro e w1 ⟨rfl, rfl⟩))
    | (go_at_call 15; ((with_reducible refine C3.out.mono ?_); rintro e w1 ⟨rfl, rfl⟩))
    | (go_at_call 15; ((with_reducible refine C4.out.mono ?_); rintro e w1 ⟨rfl, rfl⟩))
    | (go_at_call 14; ((with_reducible refine C5.out.mono ?_); rintro e w1 ⟨rfl, rfl⟩))
    | (go_at_call 17; ((with_reducible refine C6.out.mono ?_); rintro e w1 ⟨rfl, b⟩; have B1 := Lib.hid b; clear b))
    | (go_at_call 26; ((with_reducible refine (C7.out _ (HV.out.below B1.out)).mono ?_); rintro e w2 ⟨rfl, b⟩; have B2 := Lib.hid (bt B1.out b); clear b)))
  go_ret
  exact ⟨rfl, B2.out⟩
end Go.Proofs.YteigcgncbkjmaaaDoor

/- Layer 3: the program's walks: Parts, Weekday, AddMonths. -/
import Derived.Test.YtpgfadkkfofhcaaDoorDatB
namespace Go.Proofs.YtpgfadkkfofhcaaDoor
open Go Go.RowKit

theorem results_tmp4 {fn : Func} {t u v x : Tmp} (h : fn.results = #[.tmp t, .tmp u, .tmp v, .tmp x]) (tmps : Array Value) (P : Program) (w : World) :
    (results fn tmps).run P w = .ok (.tuple #[tmps.getD t undef, tmps.getD u undef, tmps.getD v undef, tmps.getD x undef]) w := by
  simp [results, h]

set_option maxHeartbeats 400000 in
theorem parts4_in (Y M D n : Int) (h : IsDate Y M D n) (hn : n ≤ 99999) (w : World) (hv : VarD w) :
    Calls Tryd.prog 15 #[.int .i64 n] w fun e w' => e = .returned (.tuple #[.int .i64 Y, .int .i64 M, .int .i64 D, .int .i64 0]) ∧ w = w' := by
  have HD := Lib.hid (isDay_in n h.n0 hn w)
  have HP := Lib.hid (parts_anyD Y M D n h hn w hv)
  clear h hn hv
  go_enter Tryd.func15, Tryd.ntmps15
  go_wp2_with (first
    | (go_at_call 19; ((with_reducible refine HD.out.mono ?_); rintro e w' ⟨rfl, rfl⟩))
    | (go_at_call 20; ((with_reducible refine HP.out.mono ?_); rintro e w' ⟨rfl, rfl⟩)))
  refine bodyPost_ret (results_tmp4 rfl _ _ _) rfl ?_
  exact ⟨rfl, rfl⟩
set_option maxHeartbeats 400000 in
theorem parts4_out (n : Int) (h : n < 0 ∨ 99999 < n) (w : World) :
    Calls Tryd.prog 15 #[.int .i64 n] w fun e w' => e = .returned (.tuple #[.int .i64 0, .int .i64 0, .int .i64 0, .int .i64 2]) ∧ w = w' := by
  have HD := Lib.hid (isDay_out n h w)
  clear h
  go_enter Tryd.func15, Tryd.ntmps15
  go_wp2_with (go_at_call 19; ((with_reducible refine HD.out.mono ?_); rintro e w' ⟨rfl, rfl⟩))
  refine bodyPost_ret (results_tmp4 rfl _ _ _) rfl ?_
  exact ⟨rfl, rfl⟩
/-- The month that AddMonths comes to. -/
def mvY (y m n : Int) : Int := (12 * y + m - 1 + n) / 12
def mvM (y m n : Int) : Int := (12 * y + m - 1 + n) % 12 + 1
/-- The day of the month. -/
def amD (y m d n : Int) (b : Bool) : Int := if b && decide (d = mlen y m) then mlen (mvY y m n) (mvM y m n) else min d (mlen (mvY y m n) (mvM y m n))
/-- What AddMonths answers. -/
def amV (y m d n : Int) (b : Bool) : Int := ofV (mvY y m n) (mvM y m n) (amD y m d n b)
def amE (y m d n : Int) (b : Bool) : Int := if okB (mvY y m n) (mvM y m n) (amD y m d n b) then 0 else 40
theorem amD_bd (y m d n : Int) (b : Bool) (h : 1 ≤ d) : 1 ≤ amD y m d n b ∧ amD y m d n b ≤ mlen (mvY y m n) (mvM y m n) := by
  have := mlen_bd (mvY y m n) (mvM y m n)
  unfold amD; split <;> omega

end Go.Proofs.YtpgfadkkfofhcaaDoor

/- Layer 3: the program's walks: Parts, Weekday, AddMonths. -/
import Derived.Test.YtgnmcjfocnnffaaDatB
namespace Go.Proofs.Ytgnmcjfocnnffaa
open Go Go.RowKit

theorem results_tmp4 {fn : Func} {t u v x : Tmp} (h : fn.results = #[.tmp t, .tmp u, .tmp v, .tmp x]) (tmps : Array Value) (P : Program) (w : World) :
    (results fn tmps).run P w = .ok (.tuple #[tmps.getD t undef, tmps.getD u undef, tmps.getD v undef, tmps.getD x undef]) w := by
  simp [results, h]

set_option maxHeartbeats 400000 in
theorem weekday_in (n : Int) (h0 : 0 ≤ n) (hn : n ≤ 99999) (w : World) :
    Calls Try.prog 20 #[.int .i64 n] w fun e w' => e = .returned (.tuple #[.int .i64 (n % 7), .int .i64 0]) ∧ w = w' := by
  have HD := Lib.hid (isDay_in n h0 hn w)
  go_enter Try.func20, Try.ntmps20
  go_wp2_with (go_at_call 26; ((with_reducible refine HD.out.mono ?_); rintro e w' ⟨rfl, rfl⟩))
  go_ret2
  exact ⟨rfl, rfl⟩
set_option maxHeartbeats 400000 in
theorem weekday_out (n : Int) (h : n < 0 ∨ 99999 < n) (w : World) :
    Calls Try.prog 20 #[.int .i64 n] w fun e w' => e = .returned (.tuple #[.int .i64 0, .int .i64 2]) ∧ w = w' := by
  have HD := Lib.hid (isDay_out n h w)
  clear h
  go_enter Try.func20, Try.ntmps20
  go_wp2_with (go_at_call 26; ((with_reducible refine HD.out.mono ?_); rintro e w' ⟨rfl, rfl⟩))
  go_ret2
  exact ⟨rfl, rfl⟩

/-- The month that AddMonths comes to. -/
def mvY (y m n : Int) : Int := (12 * y + m - 1 + n) / 12
def mvM (y m n : Int) : Int := (12 * y + m - 1 + n) % 12 + 1
/-- The day of the month. -/
def amD (y m d n : Int) (b : Bool) : Int := if b && decide (d = mlen y m) then mlen (mvY y m n) (mvM y m n) else min d (mlen (mvY y m n) (mvM y m n))
/-- What AddMonths answers. -/
def amV (y m d n : Int) (b : Bool) : Int := ofV (mvY y m n) (mvM y m n) (amD y m d n b)
def amE (y m d n : Int) (b : Bool) : Int := if okB (mvY y m n) (mvM y m n) (amD y m d n b) then 0 else 40
theorem amD_bd (y m d n : Int) (b : Bool) (h : 1 ≤ d) : 1 ≤ amD y m d n b ∧ amD y m d n b ≤ mlen (mvY y m n) (mvM y m n) := by
  have := mlen_bd (mvY y m n) (mvM y m n)
  unfold amD; split <;> omega

end Go.Proofs.Ytgnmcjfocnnffaa

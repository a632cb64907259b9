/- Layer 3: the program's walks: Length, Of, parts, Parts, Weekday. -/
import Derived.Test.YtgnmcjfocnnffaaDatA
namespace Go.Proofs.Ytgnmcjfocnnffaa
open Go Go.RowKit

theorem ret_pair {a b c d : Int} (h : a = b) (h' : c = d) : Ending.returned (.tuple #[.int .i64 a, .int .i64 c]) = .returned (.tuple #[.int .i64 b, .int .i64 d]) := by rw [h, h']
/-- What Length answers. -/
def lnV (y m : Int) : Int := if ymB y m then mlen y m else 0
def lnE (y m : Int) : Int := if ymB y m then 0 else 2

set_option maxHeartbeats 400000 in
theorem isDay_in (n : Int) (h0 : 0 ≤ n) (h1 : n ≤ 99999) (w : World) :
    Calls Try.prog 26 #[.int .i64 n] w fun e w' => e = .returned (.bool true) ∧ w = w' := by
  go_enter Try.func26, Try.ntmps26
  go_wp2
  go_ret
  exact ⟨rfl, rfl⟩
set_option maxHeartbeats 400000 in
theorem isDay_out (n : Int) (h : n < 0 ∨ 99999 < n) (w : World) :
    Calls Try.prog 26 #[.int .i64 n] w fun e w' => e = .returned (.bool false) ∧ w = w' := by
  have h' : n < 0 ∨ (0 ≤ n ∧ 99999 < n) := by omega
  clear h
  rcases h' with h | ⟨h0, h⟩
  · go_enter Try.func26, Try.ntmps26
    go_wp2
    go_ret
    exact ⟨rfl, rfl⟩
  · have hd : decide (n ≤ 99999) = false := decide_eq_false (by omega)
    go_enter Try.func26, Try.ntmps26
    go_wp2
    go_ret
    exact ⟨rfl, rfl⟩

theorem foy_stop {y m d n : Int} (h : IsDate y m d n) : n < foy (y + 1) := by
  have := h.le12; have := h.eq; have := foy_succ y; omega
theorem foy_go {y m d n z : Int} (h : IsDate y m d n) (hz : z < y) : foy (z + 1) ≤ n := by
  have := foy_mono (z + 1) y (by omega); have := h.eq; have := h.d0; have := (mo_le y (m - 1).toNat).2; omega

end Go.Proofs.Ytgnmcjfocnnffaa

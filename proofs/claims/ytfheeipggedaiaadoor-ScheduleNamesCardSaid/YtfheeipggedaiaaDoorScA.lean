/- Layer 6: the reference's walks: Valid, Step, Regular, Stub. -/
import Derived.Test.YtfheeipggedaiaaDoorScN
import Derived.Test.YtfheeipggedaiaaDoorCalJ
import Derived.Test.YtfheeipggedaiaaDoorDatE
namespace Go.Proofs.YtfheeipggedaiaaDoor
open Go Go.RowKit

theorem belE_c (w : World) (o : Obj) : Below w.heap.size w (w.alloc o) := (Below.refl _ w).alloc (Nat.le_refl _) _
section
variable (st en mo : Int) (bk la : Bool) (sb ro we : Int) (A : Option Addr) (c : Nat) (hs : List Int)
def StpR (t : Int) (r : Bool) (w : World) (e : Ending) (w' : World) : Prop := e = .returned (.tuple #[.int .i64 t, .bool r]) ∧ Below w.heap.size w w'

set_option maxRecDepth 100000 in
set_option maxHeartbeats 1600000 in
theorem rstep_0 (k t e : Int) (r : Bool) (k0 : 1 ≤ k) (k1 : k ≤ 200) (m0 : 1 ≤ mo) (m1 : mo ≤ 1200) (w : World)
    (H : ∀ W, Calls Tryd.prog 53 #[.int .i64 st, .int .i64 (k * mo), .bool la] W fun x w' => x = .returned (.tuple #[.int .i64 t, .int .i64 e]) ∧ W = w')
    (hr : (decide (e = 0) && decide (st < t) && decide (t < en)) = r) :
    Calls Tryd.prog 33 #[.agg #[.int .i64 st, .int .i64 en, .int .i64 mo, .bool false, .bool la, .int .u8 sb, .int .u8 ro, .int .u8 we, .slice A hs.length c], .int .i64 k] w (StpR t r w) := by
  have J := Lib.hid H
  have hb : -240000 ≤ k * mo ∧ k * mo ≤ 240000 := by
    have h1 := Int.mul_le_mul k1 m1 (by omega) (by omega)
    have h2 := Int.mul_nonneg (show 0 ≤ k by omega) (show 0 ≤ mo by omega)
    omega
  obtain ⟨hb0, hb1⟩ := hb
  clear H k0 k1 m0 m1
  have hc : ((e == 0) = false ∧ r = false) ∨ (e = 0 ∧ decide (st < t) = false ∧ r = false) ∨ (e = 0 ∧ decide (st < t) = true ∧ decide (t < en) = false ∧ r = false) ∨ (e = 0 ∧ decide (st < t) = true ∧ decide (t < en) = true ∧ r = true) := by
    subst hr
    by_cases h0 : e = 0
    · cases decide (st < t) <;> cases decide (t < en) <;> simp [h0]
    · simp [h0]
  clear hr
  rcases hc with ⟨h0, rfl⟩ | ⟨rfl, h1, rfl⟩ | ⟨rfl, h1, h2, rfl⟩ | ⟨rfl, h1, h2, rfl⟩
  all_goals
    go_enter Tryd.func33, Tryd.ntmps33
    go_wp2_with (go_at_call 53; ((with_reducible refine (J.out _).mono ?_); rintro x w1 ⟨rfl, rfl⟩))
    go_quiet (fail)
    go_wp2
    go_ret2
    exact ⟨rfl, below_dn (belE_c _ _) _⟩

set_option maxRecDepth 100000 in
set_option maxHeartbeats 1600000 in
theorem rstep_1 (k t e : Int) (r : Bool) (k0 : 1 ≤ k) (k1 : k ≤ 200) (m0 : 1 ≤ mo) (m1 : mo ≤ 1200) (w : World)
    (H : ∀ W, Calls Tryd.prog 53 #[.int .i64 en, .int .i64 (-k * mo), .bool la] W fun x w' => x = .returned (.tuple #[.int .i64 t, .int .i64 e]) ∧ W = w')
    (hr : (decide (e = 0) && decide (st < t) && decide (t < en)) = r) :
    Calls Tryd.prog 33 #[.agg #[.int .i64 st, .int .i64 en, .int .i64 mo, .bool true, .bool la, .int .u8 sb, .int .u8 ro, .int .u8 we, .slice A hs.length c], .int .i64 k] w (StpR t r w) := by
  have J := Lib.hid H
  have hb : -240000 ≤ k * mo ∧ k * mo ≤ 240000 := by
    have h1 := Int.mul_le_mul k1 m1 (by omega) (by omega)
    have h2 := Int.mul_nonneg (show 0 ≤ k by omega) (show 0 ≤ mo by omega)
    omega
  obtain ⟨hb0, hb1⟩ := hb
  have hb2 : -240000 ≤ -k * mo ∧ -k * mo ≤ 240000 := by rw [Int.neg_mul]; omega
  obtain ⟨hb2, hb3⟩ := hb2
  clear H m0 m1
  have hc : ((e == 0) = false ∧ r = false) ∨ (e = 0 ∧ decide (st < t) = false ∧ r = false) ∨ (e = 0 ∧ decide (st < t) = true ∧ decide (t < en) = false ∧ r = false) ∨ (e = 0 ∧ decide (st < t) = true ∧ decide (t < en) = true ∧ r = true) := by
    subst hr
    by_cases h0 : e = 0
    · cases decide (st < t) <;> cases decide (t < en) <;> simp [h0]
    · simp [h0]
  clear hr
  rcases hc with ⟨h0, rfl⟩ | ⟨rfl, h1, rfl⟩ | ⟨rfl, h1, h2, rfl⟩ | ⟨rfl, h1, h2, rfl⟩
  all_goals
    go_enter Tryd.func33, Tryd.ntmps33
    go_wp2_with (go_at_call 53; ((with_reducible refine (J.out _).mono ?_); rintro x w1 ⟨rfl, rfl⟩))
    go_quiet (fail)
    go_wp2
    go_ret2
    exact ⟨rfl, below_dn (belE_c _ _) _⟩

/-- The months that the k-th regular day is away from the day at which counting begins. -/
def mth (k : Int) : Int := if bk then -k * mo else k * mo
def bsd : Int := if bk then en else st
end
end Go.Proofs.YtfheeipggedaiaaDoor

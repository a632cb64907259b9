/- Layer 6: the program's walks: Check. -/
import Derived.Test.YtfheeipggedaiaaDoorScQ
namespace Go.Proofs.YtfheeipggedaiaaDoor
open Go Go.RowKit

section
variable (st en mo : Int) (bk la : Bool) (sb ro we : Int) (A : Option Addr) (c : Nat) (hs : List Int)
set_option maxRecDepth 100000 in
set_option maxHeartbeats 3200000 in
theorem pcheck_go (v x u m1 m2 b1 b2 b3 : Bool) (w : World) (h : CalIn w we A c hs) (hv : valB we hs = v) (hx : dayB st = x) (hy : dayB en = u) (hl : decide (st < en) = b1) (hm1 : decide (1 ≤ mo) = m1) (hm2 : decide (mo ≤ 1200) = m2) (hsb : decide (sb ≤ 1) = b2) (hro : decide (ro ≤ 4) = b3) :
    Calls Tryd.prog 15 #[.agg #[.int .i64 st, .int .i64 en, .int .i64 mo, .bool bk, .bool la, .int .u8 sb, .int .u8 ro, .int .u8 we, .slice A hs.length c]] w fun e w' => e = .returned (.int .i64 (if v && x && u && b1 && (m1 && m2) && b2 && b3 then 0 else 8)) ∧ Below w.heap.size w w' := by
  have HV := Lib.hid (check_anyC we A c hs (if v then 0 else 8) (w.alloc (.cells #[.int .i64 st, .int .i64 en, .int .i64 mo, .bool bk, .bool la, .int .u8 sb, .int .u8 ro, .int .u8 we, .slice A hs.length c] 27)) (h.below (belE_c w _)) (by rw [← hv]; rfl))
  have HX := Lib.hid (isDayS_any st x hx)
  have HY := Lib.hid (isDayS_any en u hy)
  clear h hv hx hy
  have hc1 : (x = false) ∨ (x = true ∧ u = false) ∨ (x = true ∧ u = true ∧ b1 = false) ∨ (x = true ∧ u = true ∧ b1 = true) := by cases x <;> cases u <;> cases b1 <;> simp
  have hc2 : (m1 = false) ∨ (m1 = true ∧ m2 = false) ∨ (m1 = true ∧ m2 = true) := by cases m1 <;> cases m2 <;> simp
  have hc3 : (b2 = false) ∨ (b2 = true ∧ b3 = false) ∨ (b2 = true ∧ b3 = true) := by cases b2 <;> cases b3 <;> simp
  cases v
  · rcases hc1 with rfl | ⟨rfl, rfl⟩ | ⟨rfl, rfl, rfl⟩ | ⟨rfl, rfl, rfl⟩ <;> rcases hc2 with rfl | ⟨rfl, rfl⟩ | ⟨rfl, rfl⟩ <;> rcases hc3 with rfl | ⟨rfl, rfl⟩ | ⟨rfl, rfl⟩
    all_goals
      go_enter Tryd.func15, Tryd.ntmps15
      go_wp2_with (first
        | (go_at_call 30; ((with_reducible refine HV.out.mono ?_); rintro e w1 ⟨rfl, b⟩; have B1 := Lib.hid (btS (belE_c _ _) b); clear b))
        | (go_at_call 27; ((with_reducible refine (HX.out _).mono ?_); rintro e w2 ⟨rfl, rfl⟩))
        | (go_at_call 27; ((with_reducible refine (HY.out _).mono ?_); rintro e w2 ⟨rfl, rfl⟩)))
      go_ret
      exact ⟨ret_intD (by simp), B1.out⟩
  · rcases hc1 with rfl | ⟨rfl, rfl⟩ | ⟨rfl, rfl, rfl⟩ | ⟨rfl, rfl, rfl⟩ <;> rcases hc2 with rfl | ⟨rfl, rfl⟩ | ⟨rfl, rfl⟩ <;> rcases hc3 with rfl | ⟨rfl, rfl⟩ | ⟨rfl, rfl⟩
    all_goals
      go_enter Tryd.func15, Tryd.ntmps15
      go_wp2_with (first
        | (go_at_call 30; ((with_reducible refine HV.out.mono ?_); rintro e w1 ⟨rfl, b⟩; have B1 := Lib.hid (btS (belE_c _ _) b); clear b))
        | (go_at_call 27; ((with_reducible refine (HX.out _).mono ?_); rintro e w2 ⟨rfl, rfl⟩))
        | (go_at_call 27; ((with_reducible refine (HY.out _).mono ?_); rintro e w2 ⟨rfl, rfl⟩)))
      go_ret
      exact ⟨ret_intD (by simp), B1.out⟩
def ckE : Int := if schB st en mo sb ro we hs then 0 else 8
theorem pcheck_any (w : World) (h : CalIn w we A c hs) :
    Calls Tryd.prog 15 #[.agg #[.int .i64 st, .int .i64 en, .int .i64 mo, .bool bk, .bool la, .int .u8 sb, .int .u8 ro, .int .u8 we, .slice A hs.length c]] w fun e w' => e = .returned (.int .i64 (ckE st en mo sb ro we hs)) ∧ Below w.heap.size w w' :=
  pcheck_go st en mo bk la sb ro we A c hs _ _ _ _ _ _ _ _ w h rfl rfl rfl rfl rfl rfl rfl rfl
end
end Go.Proofs.YtfheeipggedaiaaDoor

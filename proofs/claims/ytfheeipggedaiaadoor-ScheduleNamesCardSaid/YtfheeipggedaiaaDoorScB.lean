/- Layer 6: the reference's walks: Valid. -/
import Derived.Test.YtfheeipggedaiaaDoorScA
namespace Go.Proofs.YtfheeipggedaiaaDoor
open Go Go.RowKit

theorem btS {a b c : World} (h : Below a.heap.size a b) (k : Below b.heap.size b c) : Below a.heap.size a c := h.trans (k.mono h.size)
theorem cellS {a b : World} (h : Below a.heap.size a b) {r k : Nat} {v : Value} (hc : a.cell? ⟨r, k, none⟩ = some v) : b.cell? ⟨r, k, none⟩ = some v :=
  (h.cell (p := ⟨r, k, none⟩) (World.block_lt_of_cell? a _ hc)).trans hc
theorem box_cell (w : World) (xs : Array Value) (t : TypeId) (k : Nat) {v : Value} (h : xs[k]? = some v) : (w.alloc (.cells xs t)).cell? ⟨w.heap.size, k, none⟩ = some v := by
  rw [World.cell?_alloc_at _ _ _ _ rfl]; exact h
section
variable (st en mo : Int) (bk la : Bool) (sb ro we : Int) (A : Option Addr) (c : Nat) (hs : List Int)
/-- Is it a valid description? -/
def schB : Bool := valB we hs && dayB st && dayB en && decide (st < en) && (decide (1 ≤ mo) && decide (mo ≤ 1200)) && decide (sb ≤ 1) && decide (ro ≤ 4)
set_option maxRecDepth 100000 in
set_option maxHeartbeats 1600000 in
theorem rvalid_any (v x y m b1 b2 b3 : Bool) (w : World) (h : CalIn w we A c hs) (hv : valB we hs = v) (hx : dayB st = x) (hy : dayB en = y) (hl : decide (st < en) = b1) (hm : (decide (1 ≤ mo) && decide (mo ≤ 1200)) = m) (hsb : decide (sb ≤ 1) = b2) (hro : decide (ro ≤ 4) = b3) :
    Calls Tryd.prog 22 #[.agg #[.int .i64 st, .int .i64 en, .int .i64 mo, .bool bk, .bool la, .int .u8 sb, .int .u8 ro, .int .u8 we, .slice A hs.length c]] w fun e w' => e = .returned (.bool (v && x && y && b1 && m && b2 && b3)) ∧ Below w.heap.size w w' := by
  have HV := Lib.hid (valid_any we A c hs v (w.alloc (.cells #[.int .i64 st, .int .i64 en, .int .i64 mo, .bool bk, .bool la, .int .u8 sb, .int .u8 ro, .int .u8 we, .slice A hs.length c] 27)) (h.below (belE_c w _)) hv)
  have HX := Lib.hid (dayR_any st x hx)
  have HY := Lib.hid (dayR_any en y hy)
  have HM := Lib.hid (in_any mo 1 1200 m (by rw [← hm]; simp))
  clear h hv hx hy hm
  have hc : (v = false) ∨ (v = true ∧ x = false) ∨ (v = true ∧ x = true ∧ y = false) ∨ (v = true ∧ x = true ∧ y = true ∧ b1 = false) ∨ (v = true ∧ x = true ∧ y = true ∧ b1 = true ∧ m = false) ∨ (v = true ∧ x = true ∧ y = true ∧ b1 = true ∧ m = true ∧ b2 = false) ∨ (v = true ∧ x = true ∧ y = true ∧ b1 = true ∧ m = true ∧ b2 = true) := by
    cases v <;> cases x <;> cases y <;> cases b1 <;> cases m <;> cases b2 <;> simp
  rcases hc with rfl | ⟨rfl, rfl⟩ | ⟨rfl, rfl, rfl⟩ | ⟨rfl, rfl, rfl, rfl⟩ | ⟨rfl, rfl, rfl, rfl, rfl⟩ | ⟨rfl, rfl, rfl, rfl, rfl, rfl⟩ | ⟨rfl, rfl, rfl, rfl, rfl, rfl⟩
  all_goals
    go_enter Tryd.func22, Tryd.ntmps22
    go_wp2_with (first
      | (go_at_call 35; ((with_reducible refine HV.out.mono ?_); rintro e w1 ⟨rfl, b⟩; have B1 := Lib.hid (btS (belE_c _ _) b); have k0 := cellS b (box_cell w _ _ 0 rfl); have k1 := cellS b (box_cell w _ _ 1 rfl); have k2 := cellS b (box_cell w _ _ 2 rfl); have k5 := cellS b (box_cell w _ _ 5 rfl); have k6 := cellS b (box_cell w _ _ 6 rfl); clear b))
      | (go_at_call 36; ((with_reducible refine (HX.out _).mono ?_); rintro e w2 ⟨rfl, rfl⟩))
      | (go_at_call 36; ((with_reducible refine (HY.out _).mono ?_); rintro e w2 ⟨rfl, rfl⟩))
      | (go_at_call 37; ((with_reducible refine (HM.out _).mono ?_); rintro e w2 ⟨rfl, rfl⟩)))
    go_ret
    exact ⟨ret_boolD (by simp), B1.out⟩
end
end Go.Proofs.YtfheeipggedaiaaDoor

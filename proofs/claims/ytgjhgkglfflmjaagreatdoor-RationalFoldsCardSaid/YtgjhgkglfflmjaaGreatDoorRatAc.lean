/- The walks of layer 2: the rules of rounding. -/
import Derived.Test.YtgjhgkglfflmjaaGreatDoorRatAb
import Derived.Laws.EntriesVeiled
namespace Go.Proofs.YtgjhgkglfflmjaaGreatDoor
open Go Go.RowKit

/-- Does rule m round up a number below or above 0, with an odd floor, whose rest compares so to what is left? -/
def upB (m : Nat) (neg odd : Bool) (mid : Int) : Bool :=
  match m with
  | 0 => neg
  | 1 => !neg
  | 2 => decide (0 < mid) || (decide (mid = 0) && !neg)
  | 3 => decide (0 < mid) || (decide (mid = 0) && odd)
  | _ => false
def BoA (b : Bool) (w : World) (e : Ending) (w' : World) : Prop := e = .returned (.bool b) ∧ Below w.heap.size w w'
theorem above_0 (g o : Bool) (mid : Int) (w : World) : Calls Tryz.prog 88 #[.agg #[.bool g, .bool o, .int .i64 mid]] w (BoA (upB 0 g o mid) w) := by
  show Calls _ _ _ _ (BoA g w)
  go_enter Tryz.func88, Tryz.ntmps88
  go_wp2
  go_ret
  exact ⟨rfl, (Below.refl _ _).alloc (Nat.le_refl _) _⟩
theorem above_1 (g o : Bool) (mid : Int) (w : World) : Calls Tryz.prog 89 #[.agg #[.bool g, .bool o, .int .i64 mid]] w (BoA (upB 1 g o mid) w) := by
  show Calls _ _ _ _ (BoA (!g) w)
  go_enter Tryz.func89, Tryz.ntmps89
  go_wp2
  go_ret
  exact ⟨rfl, (Below.refl _ _).alloc (Nat.le_refl _) _⟩
theorem above_2 (g o : Bool) (mid : Int) (hm : mid = -1 ∨ mid = 0 ∨ mid = 1) (w : World) : Calls Tryz.prog 90 #[.agg #[.bool g, .bool o, .int .i64 mid]] w (BoA (upB 2 g o mid) w) := by
  rcases hm with rfl | rfl | rfl <;> cases g
  all_goals
    go_enter Tryz.func90, Tryz.ntmps90
    go_wp2
    go_ret
    exact ⟨rfl, (Below.refl _ _).alloc (Nat.le_refl _) _⟩
theorem above_3 (g o : Bool) (mid : Int) (hm : mid = -1 ∨ mid = 0 ∨ mid = 1) (w : World) : Calls Tryz.prog 91 #[.agg #[.bool g, .bool o, .int .i64 mid]] w (BoA (upB 3 g o mid) w) := by
  rcases hm with rfl | rfl | rfl <;> cases o
  all_goals
    go_enter Tryz.func91, Tryz.ntmps91
    go_wp2
    go_ret
    exact ⟨rfl, (Below.refl _ _).alloc (Nat.le_refl _) _⟩
theorem above_4 (g o : Bool) (mid : Int) (w : World) : Calls Tryz.prog 92 #[.agg #[.bool g, .bool o, .int .i64 mid]] w (BoA (upB 4 g o mid) w) := by
  show Calls _ _ _ _ (BoA false w)
  go_enter Tryz.func92, Tryz.ntmps92
  go_wp2
  go_ret
  exact ⟨rfl, (Below.refl _ _).alloc (Nat.le_refl _) _⟩
def RosR (w : World) (e : Ending) (w' : World) : Prop := e = .returned (.agg #[.func (.func 88) #[] #[], .func (.func 89) #[] #[], .func (.func 90) #[] #[], .func (.func 91) #[] #[], .func (.func 92) #[] #[]]) ∧ Below w.heap.size w w'
set_option maxHeartbeats 800000 in
theorem roundings_any (w : World) : Calls Tryz.prog 52 #[] w (RosR w) := by
  have hb := Lib.hid (fun o => (Below.refl _ w).alloc (Nat.le_refl _) o)
  have hr := Lib.hid (fun o => heap_alloc_new w o)
  have hoc : ∀ k, (Value.func (.func k) #[] #[]).oneCell' = true := fun _ => rfl
  go_enter Tryz.func52, Tryz.ntmps52
  go_wp2
  refine bodyPost_ret (v := .agg #[.func (.func 88) #[] #[], .func (.func 89) #[] #[], .func (.func 90) #[] #[], .func (.func 91) #[] #[], .func (.func 92) #[] #[]]) (results_cell_row rfl _ _ w.heap.size 80 _ (0, 0) _ rfl (hr.out _) Tryz.underlying80 (by kernel_rfl) (by kernel_rfl)) rfl ⟨rfl, hb.out _⟩
set_option maxHeartbeats 800000 in
theorem odd_any (s : ByteArray) (c : UInt8) (n : Nat) (hn : s.size = n + 1) (hn2 : n ≤ 1000000) (hc : ∀ h : n < s.size, s[n] = c) (b : Bool) (h48 : 48 ≤ c.toNat) (h57 : c.toNat ≤ 57) (hb : (((c.toNat : Int) - 48) % 2 == 1) = b) (w : World) :
    Calls Tryz.prog 94 #[.string s] w (BooR b w) := by
  have hlt : n < s.size := by omega
  have hcc := hc hlt
  have HB := Lib.hid hb
  have h1 : (48 : Int) ≤ (c.toNat : Int) := by omega
  have h2 : (c.toNat : Int) ≤ 57 := by omega
  have hz : (s.size : Int) - 1 = (n : Int) := by omega
  clear hb hc h48 h57
  go_enter Tryz.func94, Tryz.ntmps94
  go_wp2
  go_ret
  exact ⟨ret_bool HB.out, rfl⟩
end Go.Proofs.YtgjhgkglfflmjaaGreatDoor

/- Layer 4: the reference's walks: Roll, Add, Count, Business, and the bounds. -/
import Derived.Test.YtgnmcjfocnnffaaCalI
namespace Go.Proofs.Ytgnmcjfocnnffaa
open Go Go.RowKit

section
variable (we : Int) (A : Option Addr) (c : Nat) (hs : List Int)
def ValS (v : Bool) (w : World) : Prop := Calls Try.prog 11 #[.agg #[.int .u8 we, .slice A hs.length c]] w fun x w' => x = .returned (.bool v) ∧ Below w.heap.size w w'
def OpnS (d : Int) (b : Bool) (w : World) : Prop := Calls Try.prog 15 #[.agg #[.int .u8 we, .slice A hs.length c], .int .i64 d] w fun x w' => x = .returned (.bool b) ∧ Below w.heap.size w w'
end

theorem chk_bad {we : Int} {hs : List Int} (ds : List Int) (h : valB we hs = false) : chkE we hs ds = 8 := by unfold chkE; rw [h]; rfl
theorem chk_one {we : Int} {hs : List Int} (d : Int) (h : valB we hs = true) : chkE we hs [d] = if dayB d then 0 else 2 := by unfold chkE; rw [h]; simp
end Go.Proofs.Ytgnmcjfocnnffaa

/- Layer 4: the program's walks: the n-th business day, by a range over days. -/
import Derived.Test.YtgnmcjfocnnffaaCalB
import Derived.Test.YtgnmcjfocnnffaaCalR
import Derived.Shelf.Abstract
import Derived.OwnWalkIn
import Derived.TacticsInMore
import Derived.LoopNIn
import Derived.LoopIn
import Derived.Maps.AppendAt
namespace Go.Proofs.Ytgnmcjfocnnffaa
open Go Go.RowKit Go.Shelf

attribute [local go_sem] Oper.semAt_some

/-- How many days are left, read off the memory. -/
def leftN (w : World) (B : Nat) (s : Int) : Nat := match w.cell? ⟨B, 0, none⟩ with | some (.int _ d) => if s = 1 then (100000 - d).toNat else (d + 1).toNat | _ => 0
theorem leftN_of {w : World} {B : Nat} {s d : Int} {k : Nat} (h : w.cell? ⟨B, 0, none⟩ = some (.int .i64 d)) (ha : At s k d) : leftN w B s = k := by
  unfold leftN; rw [h]; unfold At at ha; simp only; split <;> omega
theorem At.bd {s : Int} {k : Nat} {d : Int} (h : At s k d) : -1 ≤ d ∧ d ≤ 100000 ∧ -1 ≤ s ∧ s ≤ 1 := by unfold At at h; omega

end Go.Proofs.Ytgnmcjfocnnffaa

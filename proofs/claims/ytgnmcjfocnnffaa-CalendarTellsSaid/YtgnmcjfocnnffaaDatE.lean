/- Layer 3: the reference's walks: Parts, Weekday, AddMonths. -/
import Derived.Test.YtgnmcjfocnnffaaDatD
namespace Go.Proofs.Ytgnmcjfocnnffaa
open Go Go.RowKit

theorem mv_of {y m k z x : Int} (h : 12 * z + x = 12 * y + m + k) (x0 : 1 ≤ x) (x1 : x ≤ 12) : mvY y m k = z ∧ mvM y m k = x := by
  unfold mvY mvM; omega
end Go.Proofs.Ytgnmcjfocnnffaa

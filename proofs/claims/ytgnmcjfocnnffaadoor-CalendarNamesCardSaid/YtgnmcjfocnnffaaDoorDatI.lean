/- Layer 3: the chapter's examples hold: alive. -/
import Derived.Test.YtgnmcjfocnnffaaDoorDatH
namespace Go.Proofs.YtgnmcjfocnnffaaDoor
open Go Go.RowKit

theorem text_at (y m d n : Int) (l : List UInt8) (h : IsDate y m d n) (hn : n ≤ 99999) (h1 : txt y m d = l) (w : World) (hv : VarS w) :
    Calls Tryd.prog 31 #[.int .i64 n] w fun r w' => r = .returned (.tuple #[.string ⟨l.toArray⟩, .int .i64 0]) ∧ Below w.heap.size w w' := by
  rw [← h1]; exact text2_in y m d n h hn w hv
theorem weekday_at (n v : Int) (h0 : 0 ≤ n) (hn : n ≤ 99999) (h : n % 7 = v) (w : World) :
    Calls Tryd.prog 41 #[.int .i64 n] w fun r w' => r = .returned (.tuple #[.int .i64 v, .int .i64 0]) ∧ w = w' := by
  rw [← h]; exact weekday_in n h0 hn w
theorem isDate_mk {y m d n : Int} (h : (decide (1900 ≤ y) && decide (1 ≤ m) && decide (m ≤ 12) && decide (1 ≤ d) && decide (d ≤ mlen y m) && decide (n + 1 = foy y + mo y (m - 1).toNat + d)) = true) : IsDate y m d n := by
  simp only [Bool.and_eq_true, decide_eq_true_eq] at h
  obtain ⟨⟨⟨⟨⟨a, b⟩, c⟩, d⟩, e⟩, f⟩ := h
  exact ⟨a, b, c, d, e, f⟩

end Go.Proofs.YtgnmcjfocnnffaaDoor

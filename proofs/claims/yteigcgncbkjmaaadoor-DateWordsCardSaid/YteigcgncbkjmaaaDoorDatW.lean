/- Layer 3: the order of texts of dates. -/
import Derived.Test.YteigcgncbkjmaaaDoorDatI
namespace Go.Proofs.YteigcgncbkjmaaaDoor
open Go Go.RowKit Go.Op

theorem u_lt (a b : Int) : decide (dgU a < dgU b) = decide (a % 10 < b % 10) := by
  have := dgU_nat a; have := dgU_nat b
  rw [Bool.eq_iff_iff, decide_eq_true_iff, decide_eq_true_iff, UInt8.lt_iff_toNat_lt]; omega
theorem u_eq (a b : Int) : (dgU a == dgU b) = decide (a % 10 = b % 10) := by
  have := dgU_nat a; have := dgU_nat b
  rw [Bool.eq_iff_iff, beq_iff_eq, decide_eq_true_iff, ← UInt8.toNat_inj]; omega
theorem two_less (m m' : Int) (l l' : List UInt8) (m0 : 0 ≤ m) (m1 : m ≤ 99) (n0 : 0 ≤ m') (n1 : m' ≤ 99) :
    bytesLess (two m ++ l) (two m' ++ l') = (decide (m < m') || (decide (m = m') && bytesLess l l')) := by
  unfold two
  simp only [List.cons_append, List.nil_append, bytesLess, u_lt, u_eq]
  generalize bytesLess l l' = b
  rw [Bool.eq_iff_iff]
  cases b
  all_goals
    simp only [Bool.or_eq_true, Bool.and_eq_true, decide_eq_true_iff, and_true, and_false, or_false, Bool.false_eq_true]
    omega
theorem digits4 (m : Int) (m0 : 0 ≤ m) (m1 : m ≤ 9999) : ∃ x y z u : Int, m = 1000 * x + 100 * y + 10 * z + u ∧ (0 ≤ x ∧ x ≤ 9) ∧ (0 ≤ y ∧ y ≤ 9) ∧ (0 ≤ z ∧ z ≤ 9) ∧ (0 ≤ u ∧ u ≤ 9) := by
  refine ⟨m / 1000, m / 100 % 10, m / 10 % 10, m % 10, ?_, ?_, ?_, ?_, ?_⟩
  · have i1 : m / 10 / 10 = m / 100 := by omega
    have i2 : m / 100 / 10 = m / 1000 := by omega
    omega
  all_goals omega
theorem four_of (x y z u : Int) (_hx : 0 ≤ x ∧ x ≤ 9) (hy : 0 ≤ y ∧ y ≤ 9) (hz : 0 ≤ z ∧ z ≤ 9) (hu : 0 ≤ u ∧ u ≤ 9) :
    four (1000 * x + 100 * y + 10 * z + u) = [dgU x, dgU y, dgU z, dgU u] := by
  have e (a b : Int) (h : a % 10 = b % 10) : dgU a = dgU b := by unfold dgU; rw [h]
  have q1 : (1000 * x + 100 * y + 10 * z + u) / 1000 = x := by omega
  have q2 : (1000 * x + 100 * y + 10 * z + u) / 100 = 10 * x + y := by omega
  have q3 : (1000 * x + 100 * y + 10 * z + u) / 10 = 100 * x + 10 * y + z := by omega
  unfold four
  rw [q1, q2, q3, e (10 * x + y) y (by omega), e (100 * x + 10 * y + z) z (by omega), e (1000 * x + 100 * y + 10 * z + u) u (by omega)]
theorem four_less (m m' : Int) (l l' : List UInt8) (m0 : 0 ≤ m) (m1 : m ≤ 9999) (n0 : 0 ≤ m') (n1 : m' ≤ 9999) :
    bytesLess (four m ++ l) (four m' ++ l') = (decide (m < m') || (decide (m = m') && bytesLess l l')) := by
  obtain ⟨x, y, z, u, rfl, hx, hy, hz, hu⟩ := digits4 m m0 m1
  obtain ⟨x', y', z', u', rfl, hx', hy', hz', hu'⟩ := digits4 m' n0 n1
  rw [four_of x y z u hx hy hz hu, four_of x' y' z' u' hx' hy' hz' hu']
  simp only [List.cons_append, List.nil_append, bytesLess, u_lt, u_eq]
  have k (a : Int) (h : 0 ≤ a ∧ a ≤ 9) : a % 10 = a := by omega
  rw [k x hx, k y hy, k z hz, k u hu, k x' hx', k y' hy', k z' hz', k u' hu']
  generalize bytesLess l l' = b
  rw [Bool.eq_iff_iff]
  cases b
  all_goals
    simp only [Bool.or_eq_true, Bool.and_eq_true, decide_eq_true_iff, and_true, and_false, or_false, Bool.false_eq_true]
    omega
theorem dash_less (l l' : List UInt8) : bytesLess ([45] ++ l) ([45] ++ l') = bytesLess l l' := by
  simp [bytesLess]
theorem txt_less {y m d n y' m' d' n' : Int} (h : IsDate y m d n) (hn : n ≤ 99999) (h' : IsDate y' m' d' n') (hn' : n' ≤ 99999) :
    bytesLess (txt y m d) (txt y' m' d') = decide (n < n') := by
  have a1 := h.y0; have a2 := h.y1 hn; have a3 := h.m0; have a4 := h.m1; have a5 := h.d0; have a6 := h.d31
  have b1 := h'.y0; have b2 := h'.y1 hn'; have b3 := h'.m0; have b4 := h'.m1; have b5 := h'.d0; have b6 := h'.d31
  unfold txt
  rw [← List.append_nil (two d), ← List.append_nil (two d')]
  simp only [List.append_assoc]
  rw [four_less _ _ _ _ (by omega) (by omega) (by omega) (by omega), dash_less, two_less _ _ _ _ (by omega) (by omega) (by omega) (by omega), dash_less, two_less _ _ _ _ (by omega) (by omega) (by omega) (by omega)]
  have := h.lex h'
  rw [Bool.eq_iff_iff]
  simp only [Bool.or_eq_true, Bool.and_eq_true, decide_eq_true_iff, bytesLess, or_false, and_false, Bool.false_eq_true]
  omega
end Go.Proofs.YteigcgncbkjmaaaDoor

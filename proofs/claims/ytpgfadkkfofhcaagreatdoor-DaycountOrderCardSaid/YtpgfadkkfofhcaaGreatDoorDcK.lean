/- Layer 5, plain: days and fractions add up, change their sign, do not fall. -/
import Derived.Test.YtpgfadkkfofhcaaGreatDoorDcN
namespace Go.Proofs.YtpgfadkkfofhcaaGreatDoor
open Go Go.RowKit

theorem thirty_neg (y1 m1 d1 y2 m2 d2 : Int) : -thirty y2 m2 d2 y1 m1 d1 = thirty y1 m1 d1 y2 m2 d2 := by unfold thirty; omega
theorem dys_plain {r y1 m1 d1 n1 y2 m2 d2 n2 : Int} (hr : r ≠ 4) : dys r y1 m1 d1 n1 y2 m2 d2 n2 = if r = 2 then thirty y1 m1 d1 y2 m2 d2 else n2 - n1 := by
  unfold dys fwd
  rw [if_neg hr, if_neg hr, ← thirty_neg y1 m1 d1 y2 m2 d2]
  split <;> split <;> omega
theorem dys_add {r : Int} (y1 m1 d1 n1 y2 m2 d2 n2 y3 m3 d3 n3 : Int) (hr : r ≠ 4) :
    dys r y1 m1 d1 n1 y2 m2 d2 n2 + dys r y2 m2 d2 n2 y3 m3 d3 n3 = dys r y1 m1 d1 n1 y3 m3 d3 n3 := by
  rw [dys_plain hr, dys_plain hr, dys_plain hr]
  unfold thirty
  split <;> omega
theorem div_add (x y k : Int) : Rat.divInt x k + Rat.divInt y k = Rat.divInt (x + y) k := by
  rw [Rat.divInt_eq_div, Rat.divInt_eq_div, Rat.divInt_eq_div, Rat.intCast_add]
  grind
theorem frQ_add {r : Int} (y1 m1 d1 n1 y2 m2 d2 n2 y3 m3 d3 n3 : Int) (hr : r ≠ 4) :
    frQ r y1 m1 d1 n1 y2 m2 d2 n2 + frQ r y2 m2 d2 n2 y3 m3 d3 n3 = frQ r y1 m1 d1 n1 y3 m3 d3 n3 := by
  unfold frQ
  split
  · grind
  · rw [div_add, dys_add _ _ _ _ _ _ _ _ _ _ _ _ hr]
theorem bond_same (y m d : Int) : bond y m d y m d = 0 := by unfold bond; split <;> omega
theorem thirty_same (y m d : Int) : thirty y m d y m d = 0 := by unfold thirty; omega
theorem fwd_same (r y m d n : Int) : fwd r y m d n y m d n = 0 := by
  unfold fwd
  rw [bond_same, thirty_same]
  split
  · rfl
  · split <;> omega
theorem dys_same (r y m d n : Int) : dys r y m d n y m d n = 0 := by
  unfold dys
  rw [fwd_same]
  split <;> rfl
theorem dys_neg {r y1 m1 d1 n1 y2 m2 d2 n2 : Int} (h1 : IsDate y1 m1 d1 n1) (h2 : IsDate y2 m2 d2 n2) : dys r y1 m1 d1 n1 y2 m2 d2 n2 = -dys r y2 m2 d2 n2 y1 m1 d1 n1 := by
  rcases Int.lt_trichotomy n1 n2 with h | rfl | h
  · unfold dys; rw [if_neg (by omega), if_pos h]; omega
  · obtain ⟨rfl, rfl, rfl⟩ := h1.uniq h2
    rw [dys_same]; rfl
  · unfold dys; rw [if_pos h, if_neg (by omega)]
theorem frQ_neg {r y1 m1 d1 n1 y2 m2 d2 n2 : Int} (h1 : IsDate y1 m1 d1 n1) (h2 : IsDate y2 m2 d2 n2) : frQ r y1 m1 d1 n1 y2 m2 d2 n2 + frQ r y2 m2 d2 n2 y1 m1 d1 n1 = 0 := by
  unfold frQ
  split
  · grind
  · rw [div_add, dys_neg h1 h2, Int.add_comm, Int.add_right_neg]
    split <;> rfl
theorem frQ_same (r y m d n : Int) : frQ r y m d n y m d n = 0 := by
  unfold frQ
  rw [dys_same]
  split
  · grind
  · split <;> rfl
/-- Later ends do not give fewer days. -/
theorem dys_mono {r y m d n y1 m1 d1 n1 y2 m2 d2 n2 : Int} (h1 : IsDate y1 m1 d1 n1) (h2 : IsDate y2 m2 d2 n2) (h : n ≤ n1) (hl : n1 ≤ n2) : dys r y m d n y1 m1 d1 n1 ≤ dys r y m d n y2 m2 d2 n2 := by
  unfold dys
  rw [if_neg (by omega), if_neg (by omega)]
  unfold fwd
  split
  · have := thD_mono h1 h2 hl
    unfold thirty; omega
  · split
    · exact bond_mono h1 h2 hl
    · omega
/-- CountBond and CountThirty. -/
theorem dys_bond {y1 m1 d1 n1 y2 m2 d2 n2 : Int} (h2 : IsDate y2 m2 d2 n2) (h : n1 ≤ n2) : dys 4 y1 m1 d1 n1 y2 m2 d2 n2 = dys 2 y1 m1 d1 n1 y2 m2 d2 n2 + (if d2 = 31 ∧ d1 < 30 then 1 else 0) := by
  unfold dys
  rw [if_neg (by omega), if_neg (by omega)]
  exact bond_thirty h2.d31
/-- Whole years by rule 3. -/
theorem frQ_years (a b : Int) (m1 d1 m2 d2 : Int) : frQ 3 a m1 d1 (foy a) b m2 d2 (foy b) = ((b - a : Int) : Rat) := by
  unfold frQ
  rw [if_pos rfl, frQ_act, actQ_first, actQ_first, ← Rat.intCast_sub]
  congr 1
  omega
/-- Months of 30 days. -/
theorem dys_months {r y m d n n' k : Int} (hr : r = 2 ∨ r = 4) (hd : d ≤ 28) : dys r y m d n ((12 * y + m - 1 + k) / 12) ((12 * y + m - 1 + k) % 12 + 1) d n' = 30 * k := by
  have e1 : ∀ a b c a' b' : Int, c ≤ 28 → thirty a b c a' b' c = 360 * (a' - a) + 30 * (b' - b) := fun a b c a' b' hc => by unfold thirty thD; omega
  have e2 : ∀ a b c a' b' : Int, c ≤ 28 → bond a b c a' b' c = 360 * (a' - a) + 30 * (b' - b) := fun a b c a' b' hc => by unfold bond; rw [if_pos (by omega)]; omega
  unfold dys fwd
  rw [e1 _ _ _ _ _ hd, e1 _ _ _ _ _ hd, e2 _ _ _ _ _ hd, e2 _ _ _ _ _ hd]
  rcases hr with rfl | rfl
  · simp; split <;> omega
  · simp; split <;> omega
theorem frQ_months {r y m d n n' k : Int} (hr : r = 2 ∨ r = 4) (hd : d ≤ 28) : frQ r y m d n ((12 * y + m - 1 + k) / 12) ((12 * y + m - 1 + k) % 12 + 1) d n' = Rat.divInt k 12 := by
  have h := dys_months (y := y) (m := m) (n := n) (n' := n') (k := k) hr hd
  unfold frQ
  rw [h, if_neg (by omega), if_neg (by omega), Rat.divInt_eq_div, Rat.divInt_eq_div]
  have g := months_360 k
  exact g
end Go.Proofs.YtpgfadkkfofhcaaGreatDoor

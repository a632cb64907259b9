/- Layer 6: the reference's walks: Same. -/
import Derived.Test.YtfheeipggedaiaaDoorScF
namespace Go.Proofs.YtfheeipggedaiaaDoor
open Go Go.RowKit

theorem HsP.below {w w' : World} {A : Option Addr} {ps : List Per} (h : HsP w A ps) (hb : Below w.heap.size w w') : HsP w' A ps := by
  rcases h with h | ⟨b, h1, h2, h3⟩
  · exact .inl h
  · exact .inr ⟨b, h1, Nat.lt_of_lt_of_le h2 hb.size, fun j hj => by
      obtain ⟨a, b', c, d⟩ := h3 j hj
      exact ⟨cellS hb a, cellS hb b', cellS hb c, cellS hb d⟩⟩
theorem HsP.get {w : World} {A : Option Addr} {ps : List Per} (h : HsP w A ps) {j : Nat} (hj : j < ps.length) : ∃ b, A = some ⟨b, 0, none⟩ ∧ b < w.heap.size ∧ ∀ j, j < ps.length → w.cell? ⟨b, j * 4, none⟩ = some (.int .i64 (ps.getD j (0, 0, 0, 0)).1) ∧ w.cell? ⟨b, j * 4 + 1, none⟩ = some (.int .i64 (ps.getD j (0, 0, 0, 0)).2.1) ∧ w.cell? ⟨b, j * 4 + 2, none⟩ = some (.int .i64 (ps.getD j (0, 0, 0, 0)).2.2.1) ∧ w.cell? ⟨b, j * 4 + 3, none⟩ = some (.int .i64 (ps.getD j (0, 0, 0, 0)).2.2.2) := by
  rcases h with rfl | h
  · simp at hj
  · exact h
theorem ext_toP {xs ys : List Per} (hl : xs.length = ys.length) (h : ∀ j, j < xs.length → xs.getD j (0, 0, 0, 0) = ys.getD j (0, 0, 0, 0)) : xs = ys := by
  refine List.ext_getElem hl fun j h1 h2 => ?_
  have := h j h1
  rw [List.getD_eq_getElem?_getD, List.getD_eq_getElem?_getD, List.getElem?_eq_getElem h1, List.getElem?_eq_getElem h2] at this
  exact this
set_option maxRecDepth 100000 in
set_option maxHeartbeats 3200000 in
theorem samePs_any (A B : Option Addr) (c c' : Nat) (xs ys : List Per) (r : Bool) (hr : decide (xs = ys) = r) (hl : xs.length ≤ 1000000) (w : World) (hA : HsP w A xs) (hB : HsP w B ys) :
    Calls Tryd.prog 16 #[.slice A xs.length c, .slice B ys.length c'] w fun e w' => e = .returned (.bool r) ∧ Below w.heap.size w w' := by
  by_cases hlen : xs.length = ys.length
  · have HE : Hid (r = true ↔ ∀ j, j < xs.length → xs.getD j (0, 0, 0, 0) = ys.getD j (0, 0, 0, 0)) := by
      show _ ↔ _
      rw [← hr, decide_eq_true_iff]
      exact ⟨fun h j _ => by rw [h], fun h => ext_toP hlen h⟩
    rw [← hlen]
    have HA := Lib.hid hA
    have HB := Lib.hid hB
    have HL := Lib.hid hlen
    obtain ⟨N, hN⟩ : ∃ N, xs.length = N := ⟨_, rfl⟩
    rw [hN] at hl HE ⊢
    have HN := Lib.hid hN
    clear hA hB hr hlen hN
    go_enter Tryd.func16, Tryd.ntmps16
    go_wp2
    go_loopw [5] (fun i wr => ∃ k : Nat, k ≤ N ∧ i = .int .i64 k ∧ Hid (∀ j, j < k → xs.getD j (0, 0, 0, 0) = ys.getD j (0, 0, 0, 0)) ∧ Hid (Below w.heap.size w wr)) (fun i _ => N - (intOf i).toNat)
    case atStart => exact ⟨0, by omega, rfl, fun j h => by omega, Below.refl _ _⟩
    case round =>
      obtain ⟨k, hk, rfl, HI, HW⟩ := hrel
      by_cases hlt : k < N
      · obtain ⟨b, rfl, -, hcell⟩ := (HA.out.below HW.out).get (show k < xs.length by rw [HN.out]; exact hlt)
        obtain ⟨b', rfl, -, hcell'⟩ := (HB.out.below HW.out).get (show k < ys.length by rw [← HL.out, HN.out]; exact hlt)
        obtain ⟨d0, d1, d2, d3⟩ := hcell k (by rw [HN.out]; exact hlt)
        obtain ⟨e0, e1, e2, e3⟩ := hcell' k (by rw [← HL.out, HN.out]; exact hlt)
        have hk1 : (k : Int) < (N : Int) := by omega
        have HX : Hid (xs.getD k (0, 0, 0, 0) = ys.getD k (0, 0, 0, 0) → ∀ j, j < k + 1 → xs.getD j (0, 0, 0, 0) = ys.getD j (0, 0, 0, 0)) := fun g j hj => by
          rcases Nat.lt_or_ge j k with q | q
          · exact HI.out j q
          · obtain rfl : j = k := by omega
            exact g
        have HY : Hid (xs.getD k (0, 0, 0, 0) ≠ ys.getD k (0, 0, 0, 0) → r = false) := fun g => by
          cases r
          · rfl
          · exact absurd (HE.out.1 rfl k hlt) g
        clear hcell hcell' HA HB HE HI
        generalize xs.getD k (0, 0, 0, 0) = x at *
        generalize ys.getD k (0, 0, 0, 0) = y at *
        obtain ⟨x0, x1, x2, x3⟩ := x
        obtain ⟨y0, y1, y2, y3⟩ := y
        simp only at d0 d1 d2 d3 e0 e1 e2 e3
        by_cases g1 : x0 = y0 ∧ x1 = y1 ∧ x2 = y2 ∧ x3 = y3
        · obtain ⟨rfl, rfl, rfl, rfl⟩ := g1
          have HX2 := Lib.hid (HX.out rfl)
          clear HX HY
          go_wp2
          go_quiet (fail)
          have HW2 := Lib.hid (below_dn HW.out nq)
          go_wp2
          go_round
          case rel => exact ⟨k + 1, by omega, by go_num, HX2, HW2⟩
          case measure => simp [intOf]; omega
        · obtain rfl := HY.out (by intro h; injection h with h0 h; injection h with h1 h; injection h with h2 h3; exact g1 ⟨h0, h1, h2, h3⟩)
          have hc : (x0 == y0) = false ∨ (x0 = y0 ∧ (x1 == y1) = false) ∨ (x0 = y0 ∧ x1 = y1 ∧ (x2 == y2) = false) ∨ (x0 = y0 ∧ x1 = y1 ∧ x2 = y2 ∧ (x3 == y3) = false) := by
            simp only [beq_eq_false_iff_ne]
            omega
          clear HX HY g1
          rcases hc with g1 | ⟨rfl, g1⟩ | ⟨rfl, rfl, g1⟩ | ⟨rfl, rfl, rfl, g1⟩
          all_goals
            go_wp2
            go_quiet (fail)
            have HW2 := Lib.hid (below_dn HW.out nq)
            go_wp2
            go_ret
            exact ⟨rfl, HW2.out⟩
      · obtain rfl : k = N := by omega
        have hrt : r = true := HE.out.2 HI.out
        subst hrt
        clear HE HI
        go_wp2
        go_ret
        exact ⟨rfl, HW.out⟩
  · have hrf : r = false := by rw [← hr, decide_eq_false_iff_not]; exact fun h => hlen (by rw [h])
    have hn : ((xs.length : Int) != (ys.length : Int)) = true := by rw [bne_iff_ne]; omega
    have hn2 : ((xs.length : Int) == (ys.length : Int)) = false := by rw [beq_eq_false_iff_ne]; omega
    subst hrf
    clear hr hA hB hlen
    go_enter Tryd.func16, Tryd.ntmps16
    go_wp2
    go_ret
    exact ⟨rfl, Below.refl _ _⟩
end Go.Proofs.YtfheeipggedaiaaDoor

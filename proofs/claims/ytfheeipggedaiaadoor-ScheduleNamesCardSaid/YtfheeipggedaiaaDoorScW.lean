/- Layer 6: the program's walks: Periods. -/
import Derived.Test.YtfheeipggedaiaaDoorScV
import Derived.Test.YtfheeipggedaiaaDoorScF
import Derived.BigRegion
namespace Go.Proofs.YtfheeipggedaiaaDoor
open Go Go.RowKit

/-- The first k rows of periods. -/
def PrK (L : List Int) (v : Nat → Int) (k : Nat) (xs : List Value) : Prop := ∀ j, j < k → xs[j * 4]? = some (.int .i64 (L.getD j 0)) ∧ xs[j * 4 + 1]? = some (.int .i64 (L.getD (j + 1) 0)) ∧ xs[j * 4 + 2]? = some (.int .i64 (v j)) ∧ xs[j * 4 + 3]? = some (.int .i64 (v (j + 1)))
def set4 (xs : List Value) (k : Nat) (a b c d : Value) : List Value := (((xs.set (k * 4) a).set (k * 4 + 1) b).set (k * 4 + 2) c).set (k * 4 + 3) d
theorem PrK.step {L : List Int} {v : Nat → Int} {k : Nat} {xs : List Value} (h : PrK L v k xs) (hl : k * 4 + 3 < xs.length) : PrK L v (k + 1) (set4 xs k (.int .i64 (L.getD k 0)) (.int .i64 (L.getD (k + 1) 0)) (.int .i64 (v k)) (.int .i64 (v (k + 1)))) := by
  intro j hj
  unfold set4
  rcases Nat.lt_or_ge j k with g | g
  · obtain ⟨a, b, c, d⟩ := h j g
    refine ⟨?_, ?_, ?_, ?_⟩
    all_goals (rw [List.getElem?_set_ne (by omega), List.getElem?_set_ne (by omega), List.getElem?_set_ne (by omega), List.getElem?_set_ne (by omega)]; assumption)
  · obtain rfl : j = k := by omega
    refine ⟨?_, ?_, ?_, ?_⟩
    · rw [List.getElem?_set_ne (by omega), List.getElem?_set_ne (by omega), List.getElem?_set_ne (by omega), List.getElem?_set_self (by omega)]
    · rw [List.getElem?_set_ne (by omega), List.getElem?_set_ne (by omega), List.getElem?_set_self (by rw [List.length_set]; omega)]
    · rw [List.getElem?_set_ne (by omega), List.getElem?_set_self (by rw [List.length_set, List.length_set]; omega)]
    · rw [List.getElem?_set_self (by rw [List.length_set, List.length_set, List.length_set]; omega)]
theorem own_stS {w : World} {base e size g n cap : Nat} {xs : List Value} (h : w.ownsRow base e size (.slice (some ⟨g, 0, none⟩) n cap) n xs) (j : Nat) (u : Value) :
    (w.setCell ⟨g, j, none⟩ u).ownsRow base e size (.slice (some ⟨g, 0, none⟩) n cap) n (xs.set j u) := (h.stored j u).1
section
variable (st en mo : Int) (bk la : Bool) (sb ro we : Int) (A : Option Addr) (c : Nat) (hs : List Int)
set_option maxRecDepth 100000 in
set_option maxHeartbeats 1600000 in
theorem pperiods_err (e : Int) (he : (e != 0) = true) (w : World) (H : ∀ W, Below w.heap.size w W → Calls Tryd.prog 11 #[.agg #[.int .i64 st, .int .i64 en, .int .i64 mo, .bool bk, .bool la, .int .u8 sb, .int .u8 ro, .int .u8 we, .slice A hs.length c]] W (DtsR [] e W)) :
    Calls Tryd.prog 14 #[.agg #[.int .i64 st, .int .i64 en, .int .i64 mo, .bool bk, .bool la, .int .u8 sb, .int .u8 ro, .int .u8 we, .slice A hs.length c]] w (PrsP [] e w) := by
  have J := Lib.hid H
  clear H
  go_enter Tryd.func14, Tryd.ntmps14
  go_wp2_with (go_at_call 11; ((with_reducible refine (J.out _ (belE_c _ _)).mono ?_); rintro x w1 ⟨A1, c1, rfl, -, -, -, -, b⟩; have B1 := Lib.hid (btS (belE_c _ _) b); clear b))
  go_ret2
  exact prsP_nil B1.out
set_option maxRecDepth 100000 in
set_option maxHeartbeats 1600000 in
theorem pperiods_err2 (L : List Int) (e : Int) (he : (e != 0) = true) (w : World) (H : ∀ W, Below w.heap.size w W → Calls Tryd.prog 11 #[.agg #[.int .i64 st, .int .i64 en, .int .i64 mo, .bool bk, .bool la, .int .u8 sb, .int .u8 ro, .int .u8 we, .slice A hs.length c]] W (DtsR L 0 W))
    (H2 : ∀ A1 c1 W, Below w.heap.size w W → HsA W A1 L → Calls Tryd.prog 29 #[.agg #[.int .i64 st, .int .i64 en, .int .i64 mo, .bool bk, .bool la, .int .u8 sb, .int .u8 ro, .int .u8 we, .slice A hs.length c], .slice A1 L.length c1] W (DtsR [] e W)) :
    Calls Tryd.prog 14 #[.agg #[.int .i64 st, .int .i64 en, .int .i64 mo, .bool bk, .bool la, .int .u8 sb, .int .u8 ro, .int .u8 we, .slice A hs.length c]] w (PrsP [] e w) := by
  have J := Lib.hid H
  have J2 := Lib.hid H2
  clear H H2
  go_enter Tryd.func14, Tryd.ntmps14
  go_wp2_with (first
    | (go_at_call 11; ((with_reducible refine (J.out _ (belE_c _ _)).mono ?_); rintro x w1 ⟨A1, c1, rfl, hr, -, -, -, b⟩; obtain ⟨q0, q1, q2, q3, q4, q5, q6, q7, q8⟩ := row9S b; have B1 := Lib.hid (btS (belE_c _ _) b); have HR := Lib.hid hr; clear b hr))
    | (go_at_call 29; ((with_reducible refine (J2.out _ _ _ B1.out HR.out).mono ?_); rintro x w2 ⟨A2, c2, rfl, -, -, -, -, b⟩; have B2 := Lib.hid (btS B1.out b); clear b)))
  go_ret2
  exact prsP_nil B2.out
set_option maxRecDepth 100000 in
set_option maxHeartbeats 6400000 in
theorem pperiods_ok (L : List Int) (v : Nat → Int) (N : Nat) (hN : L.length = N + 1) (n0 : 1 ≤ N) (n1 : N ≤ 1000) (w : World) (H : ∀ W, Below w.heap.size w W → Calls Tryd.prog 11 #[.agg #[.int .i64 st, .int .i64 en, .int .i64 mo, .bool bk, .bool la, .int .u8 sb, .int .u8 ro, .int .u8 we, .slice A hs.length c]] W (DtsR L 0 W))
    (H2 : ∀ A1 c1 W, Below w.heap.size w W → HsA W A1 L → Calls Tryd.prog 29 #[.agg #[.int .i64 st, .int .i64 en, .int .i64 mo, .bool bk, .bool la, .int .u8 sb, .int .u8 ro, .int .u8 we, .slice A hs.length c], .slice A1 L.length c1] W (DtsR (cntL v (N + 1)) 0 W)) :
    Calls Tryd.prog 14 #[.agg #[.int .i64 st, .int .i64 en, .int .i64 mo, .bool bk, .bool la, .int .u8 sb, .int .u8 ro, .int .u8 we, .slice A hs.length c]] w (PrsP (pmkL L v N) 0 w) := by
  have J := Lib.hid H
  have J2 := Lib.hid H2
  have HN := Lib.hid hN
  have HC := Lib.hid (cntL_len v (N + 1))
  have HG := Lib.hid (fun i (h : i < N + 1) => (by rw [List.getD_eq_getElem?_getD, cntL_get v _ _ h]; rfl : (cntL v (N + 1)).getD i 0 = v i))
  rw [hN] at J2
  unfold DtsR at J J2
  rw [hN] at J
  rw [cntL_len] at J2
  obtain ⟨i0, hi0, hz0, hz1, hz2⟩ := info_parts infoP
  clear H H2 hN
  go_enter Tryd.func14, Tryd.ntmps14
  go_wp2_with (first
    | (go_at_call 11; ((with_reducible refine (J.out _ (belE_c _ _)).mono ?_); rintro x w1 ⟨A1, c1, rfl, hr, -, -, -, b⟩; obtain ⟨q0, q1, q2, q3, q4, q5, q6, q7, q8⟩ := row9S b; have B1 := Lib.hid (btS (belE_c _ _) b); have HR := Lib.hid hr; clear b hr))
    | (go_at_call 29; ((with_reducible refine (J2.out _ _ _ B1.out HR.out).mono ?_); rintro x w2 ⟨A2, c2, rfl, hr, -, -, -, b⟩; have B2 := Lib.hid (btS B1.out b); have HR1 := Lib.hid (HR.out.below b); have HR2 := Lib.hid hr; clear b hr))
    | (at_make; refine wpList_make_full _ rfl _ _ 34 rfl w2.heap.size 41 i0 (.agg #[.int .i64 0, .int .i64 0, .int .i64 0, .int .i64 0]) 4 Tryd.underlying34 hi0 hz0 hz1 _ _ _ _ N rfl rfl (by omega) (by omega) (by rw [hz2]; omega) (by unfold maxLen; omega) (Nat.le_refl _) ?_; intro w3 hown hg1; have B3 := Lib.hid (show Below w2.heap.size w2 w3 from (Below.refl _ _).grown hg1 (Nat.le_refl _) (fun k hk => by cases hk)); have O3 := Lib.hid hown; clear hown hg1))
  clear q0 q1 q2 q3 q4 q5 q6 q7 q8 J J2
  obtain ⟨M, hM⟩ : ∃ M, (madeCells (Value.agg #[.int .i64 0, .int .i64 0, .int .i64 0, .int .i64 0]).cells (N * 4)).toList = M := ⟨_, rfl⟩
  rw [hM] at O3
  clear hM
  go_loopw [32] (fun i wr => ∃ (k : Nat) (xs : List Value), k ≤ N ∧ i = .int .i64 k ∧ Hid (PrK L v k xs) ∧ Hid (wr.ownsRow w2.heap.size 41 4 (.slice (some ⟨w2.heap.size, 0, none⟩) N N) N xs) ∧ Hid (Below w2.heap.size w2 wr)) (fun i _ => N - (intOf i).toNat)
  case atStart => exact ⟨0, _, by omega, rfl, fun j h => by omega, O3, B3⟩
  case round =>
    clear O3 B3
    obtain ⟨k, xs, hk, rfl, HP, HO, HB⟩ := hrel
    by_cases hlt : k < N
    · obtain ⟨b, o, rfl, -, hcell⟩ := (HR1.out.below HB.out).get (show k < L.length by rw [HN.out]; omega)
      obtain ⟨b2, o2, rfl, -, hcell2⟩ := (HR2.out.below HB.out).get (show k < (cntL v (N + 1)).length by rw [HC.out]; omega)
      have d0 := hcell k (by rw [HN.out]; omega)
      have d1 := hcell (k + 1) (by rw [HN.out]; omega)
      have e0 := hcell2 k (by rw [HC.out]; omega)
      have e1 := hcell2 (k + 1) (by rw [HC.out]; omega)
      rw [HG.out k (by omega)] at e0
      rw [HG.out (k + 1) (by omega)] at e1
      have hl : xs.length = N * 4 := HO.out.1
      obtain ⟨z0, hz0⟩ : ∃ z, xs[k * 4]? = some z := ⟨_, List.getElem?_eq_getElem (by omega)⟩
      obtain ⟨z1, hz1⟩ : ∃ z, xs[k * 4 + 1]? = some z := ⟨_, List.getElem?_eq_getElem (by omega)⟩
      obtain ⟨z2, hz2⟩ : ∃ z, xs[k * 4 + 2]? = some z := ⟨_, List.getElem?_eq_getElem (by omega)⟩
      obtain ⟨z3, hz3⟩ : ∃ z, xs[k * 4 + 3]? = some z := ⟨_, List.getElem?_eq_getElem (by omega)⟩
      have f0 := HO.out.frozenAt (k * 4)
      have f1 := HO.out.frozenAt (k * 4 + 1)
      have f2 := HO.out.frozenAt (k * 4 + 2)
      have f3 := HO.out.frozenAt (k * 4 + 3)
      have g0 := (HO.out.cellAt (k * 4) (by omega)).trans hz0
      have g1 := (HO.out.cellAt (k * 4 + 1) (by omega)).trans hz1
      have g2 := (HO.out.cellAt (k * 4 + 2) (by omega)).trans hz2
      have g3 := (HO.out.cellAt (k * 4 + 3) (by omega)).trans hz3
      have HS := Lib.hid (HP.out.step (by omega))
      have HO2 := Lib.hid (own_stS (own_stS (own_stS (own_stS HO.out (k * 4) (.int .i64 (L.getD k 0))) (k * 4 + 1) (.int .i64 (L.getD (k + 1) 0))) (k * 4 + 2) (.int .i64 (v k))) (k * 4 + 3) (.int .i64 (v (k + 1))))
      have hk1 : (k : Int) + 1 < (N : Int) + 1 := by omega
      have hk0 : (k : Int) < (N : Int) + 1 := by omega
      have hk2 : (k : Int) < (N : Int) := by omega
      have h00 : (0 : Int) ≤ (k : Int) := by omega
      have h01 : (0 : Int) ≤ (k : Int) + 1 := by omega
      have HWR := Lib.hid (IntWalk.i64_in ((k : Int) + 1) (by omega))
      have HTN := Lib.hid (show ((k : Int) + 1).toNat = k + 1 by omega)
      clear hcell hcell2 hz0 hz1 hz2 hz3 HP HR1 HR2 HG
      generalize L.getD k 0 = x at *
      generalize L.getD (k + 1) 0 = y at *
      generalize v k = vx at *
      generalize v (k + 1) = vy at *
      have HB2 := Lib.hid (((((HB.out.setCell (p := ⟨w2.heap.size, k * 4, none⟩) (Nat.le_refl _) (.int .i64 x)).setCell (p := ⟨w2.heap.size, k * 4 + 1, none⟩) (Nat.le_refl _) (.int .i64 y)).setCell (p := ⟨w2.heap.size, k * 4 + 2, none⟩) (Nat.le_refl _) (.int .i64 vx)).setCell (p := ⟨w2.heap.size, k * 4 + 3, none⟩) (Nat.le_refl _) (.int .i64 vy)).drew)
      go_wp2
      go_region
      go_wp2
      go_roundw
      case rel => exact ⟨k + 1, _, by omega, by go_num, HS, HO2.out, HB2⟩
      case measure => simp [intOf]; omega
    · obtain rfl : k = N := by omega
      have HF : Hid (HsP wr (some ⟨w2.heap.size, 0, none⟩) (pmkL L v k)) := by
        refine .inr ⟨_, rfl, ?_, fun j hj => ?_⟩
        · rcases HO.out.2 with ⟨h0, _⟩ | ⟨g, cap, cur, hv, _, hh, _⟩
          · cases h0
          · injection hv with h1 _ _; injection h1 with h1; injection h1 with h1; rw [h1]; exact lt_of_block hh
        · rw [pmkL_len] at hj
          have e : (pmkL L v k).getD j (0, 0, 0, 0) = pmk L v j := by unfold pmkL; rw [List.getD_eq_getElem?_getD, List.getElem?_map, List.getElem?_range hj]; rfl
          have hl : xs.length = k * 4 := HO.out.1
          rw [e]
          obtain ⟨a0, a1, a2, a3⟩ := HP.out j hj
          exact ⟨(HO.out.cellAt _ (by omega)).trans a0, (HO.out.cellAt _ (by omega)).trans a1, (HO.out.cellAt _ (by omega)).trans a2, (HO.out.cellAt _ (by omega)).trans a3⟩
      have HLN := Lib.hid (pmkL_len L v k)
      clear HO HP
      go_wp2
      go_ret2
      exact ⟨some ⟨w2.heap.size, 0, none⟩, k, by rw [HLN.out]; rfl, HF.out, fun h => (by cases h), by rw [HLN.out]; exact Nat.le_refl _, by unfold maxLen; omega, btS B2.out HB.out⟩
end
end Go.Proofs.YtfheeipggedaiaaDoor

/- Layer 6: the program's walks: rolledDays. -/
import Derived.Test.YtfheeipggedaiaaDoorScS
namespace Go.Proofs.YtfheeipggedaiaaDoor
open Go Go.RowKit

theorem own_belowS {w w' : World} {base e size g n cap : Nat} {xs : List Value} (h : w.ownsRow base e size (.slice (some ⟨g, 0, none⟩) n cap) n xs) (b : Below w.heap.size w w') : w'.ownsRow base e size (.slice (some ⟨g, 0, none⟩) n cap) n xs := own_belS h b
theorem own_setI {w : World} {base e g n cap : Nat} {os : List Int} (h : w.ownsRow base e 1 (.slice (some ⟨g, 0, none⟩) n cap) n (os.map encS)) (j : Nat) (z : Int) :
    (w.setCell ⟨g, j, none⟩ (.int .i64 z)).ownsRow base e 1 (.slice (some ⟨g, 0, none⟩) n cap) n ((os.set j z).map encS) := by
  have h1 := (h.stored j (.int .i64 z)).1
  have e1 : (os.set j z).map encS = (os.map encS).set j (.int .i64 z) := by rw [List.map_set]; rfl
  rw [e1]; exact h1
theorem own_cellI {w : World} {base e g n cap : Nat} {os : List Int} (h : w.ownsRow base e 1 (.slice (some ⟨g, 0, none⟩) n cap) n (os.map encS)) (j : Nat) (hj : j < os.length) : w.cell? ⟨g, j, none⟩ = some (.int .i64 (os.getD j 0)) := by
  have hl : os.length = n := by have := h.1; simpa using this
  rw [h.cellAt j (by omega), List.getElem?_map, List.getElem?_eq_getElem hj]
  simp [List.getD_eq_getElem?_getD, hj, encS]
theorem zerosI (n : Nat) : (madeCells (Value.int .i64 0).cells (n * 1)).toList = (List.replicate n 0).map encS := by
  rw [Nat.mul_one]
  show (madeCells #[Value.int .i64 0] _).toList = _
  rw [toList_madeCells_one]; simp [encS]
/-- The days rolled; the first error. -/
structure RolA (v q : Nat → Int) (n : Nat) (R : List Int) (E : Int) : Prop where
  ok : (∀ i, i < n → q i = 0) → R = cntL v n ∧ E = 0
  bad : ∀ i, i < n → (∀ j, j < i → q j = 0) → q i ≠ 0 → R = [] ∧ E = q i
theorem cnt_ext {os : List Int} {v : Nat → Int} {n : Nat} (hl : os.length = n) (h : ∀ j, j < n → os.getD j 0 = v j) : os = cntL v n := by
  refine ext_toS (by rw [cntL_len]; exact hl) fun j hj => ?_
  rw [h j (by omega), List.getD_eq_getElem?_getD, cntL_get _ _ _ (by omega)]; rfl
section
variable (st en mo : Int) (bk la : Bool) (sb ro we : Int) (A : Option Addr) (c : Nat) (hs : List Int)
set_option maxRecDepth 100000 in
set_option maxHeartbeats 1600000 in
theorem rolled_in (A1 : Option Addr) (c1 : Nat) (L : List Int) (n : Nat) (hn : L.length = n) (n1 : n ≤ 1000) (v q : Nat → Int) (R : List Int) (E : Int) (hP : RolA v q n R E) (w : World) (hL : HsA w A1 L)
    (H2 : ∀ (i : Nat) W, i < n → Below w.heap.size w W → Calls Tryd.prog 24 #[.agg #[.int .u8 we, .slice A hs.length c], .int .i64 (L.getD i 0), .int .u8 ro] W fun x w' => x = .returned (.tuple #[.int .i64 (v i), .int .i64 (q i)]) ∧ Below W.heap.size W w') :
    Calls Tryd.prog 29 #[.agg #[.int .i64 st, .int .i64 en, .int .i64 mo, .bool bk, .bool la, .int .u8 sb, .int .u8 ro, .int .u8 we, .slice A hs.length c], .slice A1 n c1] w (DtsR R E w) := by
  obtain ⟨i0, hi0, hz0, hz1, hz2⟩ := info_parts infoS
  have HR := Lib.hid hL
  have HN := Lib.hid hn
  have HP := Lib.hid hP
  have J := Lib.hid H2
  clear hL hn hP H2
  go_enter Tryd.func29, Tryd.ntmps29
  go_wp2_with (at_make; refine wpList_make_full _ rfl _ _ 23 rfl (w.heap.size + 1) 3 i0 (.int .i64 0) 1 Tryd.underlying23 hi0 hz0 hz1 _ _ _ _ n rfl rfl (by omega) (by omega) (by rw [hz2]; omega) (by unfold maxLen; omega) (by simp) ?_; intro w1 hown hg1)
  have C1 := Lib.hid (show Below (w.alloc (.cells #[.int .i64 st, .int .i64 en, .int .i64 mo, .bool bk, .bool la, .int .u8 sb, .int .u8 ro, .int .u8 we, .slice A hs.length c] 27)).heap.size (w.alloc (.cells #[.int .i64 st, .int .i64 en, .int .i64 mo, .bool bk, .bool la, .int .u8 sb, .int .u8 ro, .int .u8 we, .slice A hs.length c] 27)) w1 from (Below.refl _ _).grown hg1 (Nat.le_refl _) (fun k hk => by cases hk))
  rw [zerosI, World.size_alloc] at hown
  have HO1 := Lib.hid hown
  have hw1 : w.heap.size + 1 ≤ w1.heap.size := by have := C1.out.size; simpa using this
  clear hown hg1
  go_loopw [16] (fun i wr => ∃ (k : Nat) (os : List Int), k ≤ n ∧ i = .int .i64 k ∧ Hid (os.length = n) ∧ Hid (∀ j, j < k → os.getD j 0 = v j) ∧ Hid (wr.ownsRow (w.heap.size + 1) 3 1 (.slice (some ⟨w.heap.size + 1, 0, none⟩) n n) n (os.map encS)) ∧ Hid (Below (w.alloc (.cells #[.int .i64 st, .int .i64 en, .int .i64 mo, .bool bk, .bool la, .int .u8 sb, .int .u8 ro, .int .u8 we, .slice A hs.length c] 27)).heap.size (w.alloc (.cells #[.int .i64 st, .int .i64 en, .int .i64 mo, .bool bk, .bool la, .int .u8 sb, .int .u8 ro, .int .u8 we, .slice A hs.length c] 27)) wr) ∧ Hid (∀ j, j < k → q j = 0)) (fun i _ => n - (intOf i).toNat)
  case atStart => exact ⟨0, _, by omega, rfl, by simp [Hid], fun j h => by omega, HO1, C1, fun j h => by omega⟩
  case round =>
    clear HO1 C1 hw1
    obtain ⟨k, os, hk, rfl, HOL, HOV, HO, HB, HQ⟩ := hrel
    obtain ⟨q0, q1, q2, q3, q4, q5, q6, q7, q8⟩ := row9S HB.out
    by_cases hlt : k < n
    · obtain ⟨b, o, rfl, -, hcell⟩ := (HR.out.below (btS (belE_c _ _) HB.out)).get (show k < L.length by rw [HN.out]; exact hlt)
      have d0 := hcell k (by rw [HN.out]; exact hlt)
      have HC := Lib.hid (J.out k wr hlt (btS (belE_c _ _) HB.out))
      have HBAD := Lib.hid (HP.out.bad k hlt HQ.out)
      have hlt' : (k : Int) < (n : Int) := by omega
      have HVK : Hid (v k = v k) := rfl
      clear hcell J HP HR
      generalize L.getD k 0 = x at *
      by_cases hq : q k = 0
      · have HQ2 : Hid (∀ j, j < k + 1 → q j = 0) := fun j hj => by
          rcases Nat.lt_or_ge j k with g | g
          · exact HQ.out j g
          · obtain rfl : j = k := by omega
            exact hq
        rw [hq] at HC
        have HOV2 : Hid (∀ j, j < k + 1 → (os.set k (v k)).getD j 0 = v j) := fun j hj => by
          rw [List.getD_eq_getElem?_getD]
          rcases Nat.lt_or_ge j k with g | g
          · rw [List.getElem?_set_ne (by omega), ← List.getD_eq_getElem?_getD]; exact HOV.out j g
          · obtain rfl : j = k := by omega
            rw [List.getElem?_set_self (by rw [HOL.out]; exact hlt)]; rfl
        clear hq HBAD
        generalize v k = vk at *
        go_wp2_with (go_at_call 24; ((with_reducible refine HC.out.mono ?_); rintro x w2 ⟨rfl, b⟩; have O2 := Lib.hid (own_belowS HO.out b); have B2 := Lib.hid (btS HB.out b); have hcl := own_cellI O2.out k (by rw [HOL.out]; exact hlt); have hfr := O2.out.frozenAt k; clear b))
        go_roundw
        case rel => exact ⟨k + 1, os.set k vk, by omega, by go_num, by rw [Hid, List.length_set]; exact HOL.out, HOV2, own_setI O2.out k vk, B2.out.setCell (p := ⟨w.heap.size + 1, k, none⟩) (by simp) _, HQ2⟩
        case measure => simp [intOf]; omega
      · obtain ⟨rfl, rfl⟩ := HBAD.out hq
        have hq1 : (q k != 0) = true := by rw [bne_iff_ne]; exact hq
        clear hq HBAD
        generalize q k = qk at *
        generalize v k = vk at *
        go_wp2_with (go_at_call 24; ((with_reducible refine HC.out.mono ?_); rintro x w2 ⟨rfl, b⟩; have B2 := Lib.hid (btS HB.out b); clear b))
        go_ret2
        exact dtsR_nil (btS (belE_c _ _) B2.out)
    · obtain rfl : k = n := by omega
      obtain ⟨rfl, rfl⟩ := HP.out.ok HQ.out
      have HO9 : Hid (wr.ownsRow (w.heap.size + 1) 3 1 (.slice (some ⟨w.heap.size + 1, 0, none⟩) k k) k ((cntL v k).map encS)) := by
        have := HO.out
        rw [cnt_ext HOL.out HOV.out] at this
        exact this
      clear HP HO HOL HOV
      go_wp2
      go_ret2
      obtain ⟨A9, c9, e9, e10, h1, h2, h3, h4⟩ := of_ownS HO9.out
      exact ⟨A9, c9, by rw [← e10, ← e9]; rfl, h1, h2, by rw [← e10]; exact h3, h4, btS (belE_c _ _) HB.out⟩
end
end Go.Proofs.YtfheeipggedaiaaDoor

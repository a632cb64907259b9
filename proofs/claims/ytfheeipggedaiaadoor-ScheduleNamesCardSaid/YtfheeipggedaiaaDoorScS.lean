/- Layer 6: the program's walks: datesOf. -/
import Derived.Test.YtfheeipggedaiaaDoorScR
import Derived.Sort.OwnSortedInts
import Derived.BigQuiet
namespace Go.Proofs.YtfheeipggedaiaaDoor
open Go Go.RowKit Go.Lib Go.Sort

theorem own_lowS {w : World} {base base' : Nat} {e : TypeId} {size : Nat} {v : Value} {n : Nat} {xs : List Value} (h : w.ownsRow base e size v n xs) (hb : base' ≤ base) : w.ownsRow base' e size v n xs := by
  refine ⟨h.1, ?_⟩
  rcases h.2 with h0 | ⟨g, cap, cur, hv, hg, r⟩
  · exact .inl h0
  · exact .inr ⟨g, cap, cur, hv, Nat.le_trans hb hg, r⟩
theorem own_takeS {w : World} {base : Nat} {e : TypeId} {g n cap : Nat} {xs : List Value} (h : w.ownsRow base e 1 (.slice (some ⟨g, 0, none⟩) n cap) n xs) (k : Nat) (hk : k ≤ n) : w.ownsRow base e 1 (.slice (some ⟨g, 0, none⟩) k cap) k (xs.take k) := by
  have hl := h.1
  rcases h.2 with ⟨h0, _⟩ | ⟨g', cap', cur, hv, hb, hh, hn, hm, hs, ht⟩
  · cases h0
  · obtain ⟨rfl, rfl⟩ : g = g' ∧ cap = cap' := by injection hv with h1 h2 h3; injection h1 with h1; injection h1 with h1; exact ⟨h1, h3⟩
    refine ⟨by rw [List.length_take]; omega, .inr ⟨g, cap, cur, rfl, hb, hh, by omega, hm, hs, ?_⟩⟩
    rw [← ht, List.take_take]
    congr 1
    omega
theorem own_cap {w : World} {base : Nat} {e : TypeId} {g n cap : Nat} {xs : List Value} (h : w.ownsRow base e 1 (.slice (some ⟨g, 0, none⟩) n cap) n xs) : n ≤ cap ∧ cap ≤ maxLen := by
  rcases h.2 with ⟨h0, _⟩ | ⟨g', cap', cur, hv, hb, hh, hn, hm, hs, ht⟩
  · cases h0
  · obtain ⟨rfl, rfl⟩ : g = g' ∧ cap = cap' := by injection hv with h1 h2 h3; injection h1 with h1; injection h1 with h1; exact ⟨h1, h3⟩
    exact ⟨hn, hm⟩
theorem cntL_take (f : Nat → Int) (n k : Nat) (h : k ≤ n) : (cntL f n).take k = cntL f k := by
  unfold cntL; rw [← List.map_take, List.take_range, Nat.min_eq_left h]
theorem rev_own (base : Nat) (v : Value) (m : Nat) (zs : List Int) (w : World) (h : w.ownsRow base 3 1 v m (zs.map encS)) (hb : base ≤ w.heap.size) (hm : m ≤ 5000) :
    Calls Tryd.prog 48 #[v] w fun e w' => e = .returned (.tuple #[]) ∧ w'.ownsRow base 3 1 v m (zs.reverse.map encS) ∧ Below base w w' := by
  have hl : zs.length = m := by have := h.1; simpa using this
  rcases h.2 with ⟨rfl, rfl⟩ | ⟨g, cap, cur, rfl, hg, hh, hn, hc, hs, ht⟩
  · have hz : zs = [] := List.eq_nil_of_length_eq_zero hl
    subst hz
    refine (Tryd.slices_Reverse_int_empty none 0 w).mono ?_
    rintro e w' ⟨rfl, rfl⟩
    exact ⟨rfl, World.ownsRow_nil _ _ _ _, Below.refl _ _⟩
  · subst hl
    rw [Nat.mul_one] at ht
    refine (Tryd.slices_Reverse_int g 0 cap zs w (holds_of_blockI hh ht) (by omega)).mono ?_
    rintro e w' ⟨rfl, q, rfl⟩
    have ho : (putRow (Value.int .i64) (Sort.ahead w q) g 0 zs.reverse.toArray).ownsRow base 3 1 (.slice (some ⟨g, 0, none⟩) zs.length cap) zs.length (zs.reverse.map encS) := by
      have := ownsRow_sortedI (n := q) (os := #[]) (ts := zs.reverse) (ss := zs) (base := base) (by simp) hg hh hn hc hs
      rw [grow_empty] at this
      exact this
    have hgr : w.grownBy (putRow (Value.int .i64) (Sort.ahead w q) g 0 zs.reverse.toArray) (some g) := by
      have := grownBy_sortedI (w := w) (g := g) (n := q) (os := #[]) zs.reverse.toArray
      rw [grow_empty] at this
      exact this
    exact ⟨rfl, ho, (Below.refl _ w).grown hgr hb (fun k hk => by cases hk; exact hg)⟩
/-- What regularDays answers. -/
def RdR (R : Nat) (z : Bool) (v : Nat → Int) (w : World) (x : Ending) (w' : World) : Prop := ∃ u, x = .returned (.tuple #[u, .bool z]) ∧ w'.ownsRow (w.heap.size + 8) 3 1 u (R + 1) ((cntL v (R + 1)).map encS) ∧ Below w.heap.size w w' ∧ w.heap.size + 8 ≤ w'.heap.size
/-- A list of numbers. -/
def LstR (L : List Int) (w : World) (x : Ending) (w' : World) : Prop := ∃ A c, x = .returned (.slice A L.length c) ∧ HsA w' A L ∧ (A = none → c = 0) ∧ L.length ≤ c ∧ c ≤ maxLen ∧ Below w.heap.size w w'
set_option maxRecDepth 100000 in
set_option maxHeartbeats 1600000 in
theorem datesOf_0a (st en mo : Int) (la : Bool) (sb ro we : Int) (A : Option Addr) (c nh : Nat) (v : Nat → Int) (R : Nat) (hR : R ≤ 4000) (m0 : 1 ≤ mo) (m1 : mo ≤ 1200) (w : World)
    (H : ∀ W, Below w.heap.size w W → Calls Tryd.prog 47 #[.agg #[.int .i64 st, .int .i64 en, .int .i64 mo, .bool false, .bool la, .int .u8 sb, .int .u8 ro, .int .u8 we, .slice A nh c], .int .i64 st, .int .i64 en, .int .i64 mo] W (RdR R false v W)) :
    Calls Tryd.prog 26 #[.agg #[.int .i64 st, .int .i64 en, .int .i64 mo, .bool false, .bool la, .int .u8 sb, .int .u8 ro, .int .u8 we, .slice A nh c]] w (LstR (cntL v (R + 1) ++ [en]) w) := by
  have J := Lib.hid H
  obtain ⟨i0, hi0, hz0, hz1, hz2⟩ := info_parts infoS
  clear H
  have HX : Hid (∀ (W : World) (v' : Value), W.ownsRow (w.heap.size + 1) 3 1 v' (R + 1 + 1) ((cntL v (R + 1)).map encS ++ [.int .i64 en]) → W.ownsRow (w.heap.size + 1) 3 1 v' (R + 1 + 1) ((cntL v (R + 1) ++ [en]).map encS)) := fun W v' h => by rw [List.map_append]; exact h
  go_enter Tryd.func26, Tryd.ntmps26
  go_wp2
  go_quiet (fail)
  obtain ⟨W2, hW2⟩ : ∃ W2, (w.alloc (.cells #[.int .i64 st, .int .i64 en, .int .i64 mo, .bool false, .bool la, .int .u8 sb, .int .u8 ro, .int .u8 we, .slice A nh c] 27)).drewN nq = W2 := ⟨_, rfl⟩
  have C2 := Lib.hid (show Below (w.alloc (.cells #[.int .i64 st, .int .i64 en, .int .i64 mo, .bool false, .bool la, .int .u8 sb, .int .u8 ro, .int .u8 we, .slice A nh c] 27)).heap.size (w.alloc (.cells #[.int .i64 st, .int .i64 en, .int .i64 mo, .bool false, .bool la, .int .u8 sb, .int .u8 ro, .int .u8 we, .slice A nh c] 27)) W2 by rw [← hW2]; exact below_dn (Below.refl _ _) nq)
  rw [hW2]
  clear hW2 nq
  obtain ⟨q0, q1, q2, q3, q4, q5, q6, q7, q8⟩ := row9S C2.out
  have hs2 : w.heap.size + 1 ≤ W2.heap.size := by have := C2.out.size; simpa using this
  go_wp2_with (first
    | (go_at_call 47; ((with_reducible refine (J.out _ (btS (belE_c _ _) C2.out)).mono ?_); rintro x w3 ⟨u, rfl, hown, b, hz⟩; obtain ⟨g, cap, rfl⟩ := ownsRow_succ hown; obtain ⟨hcp, hcm⟩ := own_cap hown; have O3 := Lib.hid ((own_lowS hown (by omega) : w3.ownsRow (w.heap.size + 1) 3 1 _ _ _)); have C3 := Lib.hid (btS C2.out b); have hsz3 := hz; obtain ⟨q0, q1, q2, q3, q4, q5, q6, q7, q8⟩ := row9S C3.out; clear hown b hz))
    | (at_builtin; refine wpList_appS1 O3.out _ rfl _ _ 23 rfl i0 (.int .i64 0) 8 Tryd.underlying23 hi0 hz0 hz1 hz2 rfl rfl rfl rfl (by unfold maxLen; omega) (by omega) (by omega) ?_; intro v' w4 hown hb; have O4 := Lib.hid (HX.out _ _ hown); have C4 := Lib.hid (C3.out.trans (hb.mono (by simp))); have hsz4 := Nat.le_trans hsz3 hb.size; obtain ⟨g4, cap4, rfl⟩ := ownsRow_succ hown; obtain ⟨q0, q1, q2, q3, q4, q5, q6, q7, q8⟩ := row9S C4.out; clear hown hb))
  go_ret
  obtain ⟨A9, c9, e9, e10, h1, h2, h3, h4⟩ := of_ownS O4.out
  exact ⟨A9, c9, by rw [← e10, ← e9]; rfl, h1, h2, by rw [← e10]; exact h3, h4, btS (belE_c _ _) C4.out⟩

set_option maxRecDepth 100000 in
set_option maxHeartbeats 1600000 in
theorem datesOf_0b (st en mo : Int) (la : Bool) (sb ro we : Int) (A : Option Addr) (c nh : Nat) (v : Nat → Int) (R : Nat) (hR : R ≤ 4000) (m0 : 1 ≤ mo) (m1 : mo ≤ 1200) (hs : (sb == 1) = false) (w : World)
    (H : ∀ W, Below w.heap.size w W → Calls Tryd.prog 47 #[.agg #[.int .i64 st, .int .i64 en, .int .i64 mo, .bool false, .bool la, .int .u8 sb, .int .u8 ro, .int .u8 we, .slice A nh c], .int .i64 st, .int .i64 en, .int .i64 mo] W (RdR R true v W)) :
    Calls Tryd.prog 26 #[.agg #[.int .i64 st, .int .i64 en, .int .i64 mo, .bool false, .bool la, .int .u8 sb, .int .u8 ro, .int .u8 we, .slice A nh c]] w (LstR (cntL v (R + 1) ++ [en]) w) := by
  have J := Lib.hid H
  obtain ⟨i0, hi0, hz0, hz1, hz2⟩ := info_parts infoS
  clear H
  have HX : Hid (∀ (W : World) (v' : Value), W.ownsRow (w.heap.size + 1) 3 1 v' (R + 1 + 1) ((cntL v (R + 1)).map encS ++ [.int .i64 en]) → W.ownsRow (w.heap.size + 1) 3 1 v' (R + 1 + 1) ((cntL v (R + 1) ++ [en]).map encS)) := fun W v' h => by rw [List.map_append]; exact h
  go_enter Tryd.func26, Tryd.ntmps26
  go_wp2
  go_quiet (fail)
  obtain ⟨W2, hW2⟩ : ∃ W2, (w.alloc (.cells #[.int .i64 st, .int .i64 en, .int .i64 mo, .bool false, .bool la, .int .u8 sb, .int .u8 ro, .int .u8 we, .slice A nh c] 27)).drewN nq = W2 := ⟨_, rfl⟩
  have C2 := Lib.hid (show Below (w.alloc (.cells #[.int .i64 st, .int .i64 en, .int .i64 mo, .bool false, .bool la, .int .u8 sb, .int .u8 ro, .int .u8 we, .slice A nh c] 27)).heap.size (w.alloc (.cells #[.int .i64 st, .int .i64 en, .int .i64 mo, .bool false, .bool la, .int .u8 sb, .int .u8 ro, .int .u8 we, .slice A nh c] 27)) W2 by rw [← hW2]; exact below_dn (Below.refl _ _) nq)
  rw [hW2]
  clear hW2 nq
  obtain ⟨q0, q1, q2, q3, q4, q5, q6, q7, q8⟩ := row9S C2.out
  have hs2 : w.heap.size + 1 ≤ W2.heap.size := by have := C2.out.size; simpa using this
  go_wp2_with (first
    | (go_at_call 47; ((with_reducible refine (J.out _ (btS (belE_c _ _) C2.out)).mono ?_); rintro x w3 ⟨u, rfl, hown, b, hz⟩; obtain ⟨g, cap, rfl⟩ := ownsRow_succ hown; obtain ⟨hcp, hcm⟩ := own_cap hown; have O3 := Lib.hid ((own_lowS hown (by omega) : w3.ownsRow (w.heap.size + 1) 3 1 _ _ _)); have C3 := Lib.hid (btS C2.out b); have hsz3 := hz; obtain ⟨q0, q1, q2, q3, q4, q5, q6, q7, q8⟩ := row9S C3.out; clear hown b hz))
    | (at_builtin; refine wpList_appS1 O3.out _ rfl _ _ 23 rfl i0 (.int .i64 0) 8 Tryd.underlying23 hi0 hz0 hz1 hz2 rfl rfl rfl rfl (by unfold maxLen; omega) (by omega) (by omega) ?_; intro v' w4 hown hb; have O4 := Lib.hid (HX.out _ _ hown); have C4 := Lib.hid (C3.out.trans (hb.mono (by simp))); have hsz4 := Nat.le_trans hsz3 hb.size; obtain ⟨g4, cap4, rfl⟩ := ownsRow_succ hown; obtain ⟨q0, q1, q2, q3, q4, q5, q6, q7, q8⟩ := row9S C4.out; clear hown hb))
  go_ret
  obtain ⟨A9, c9, e9, e10, h1, h2, h3, h4⟩ := of_ownS O4.out
  exact ⟨A9, c9, by rw [← e10, ← e9]; rfl, h1, h2, by rw [← e10]; exact h3, h4, btS (belE_c _ _) C4.out⟩

set_option maxRecDepth 100000 in
set_option maxHeartbeats 1600000 in
theorem datesOf_0c (st en mo : Int) (la : Bool) (ro we : Int) (A : Option Addr) (c nh : Nat) (v : Nat → Int) (m0 : 1 ≤ mo) (m1 : mo ≤ 1200) (w : World)
    (H : ∀ W, Below w.heap.size w W → Calls Tryd.prog 47 #[.agg #[.int .i64 st, .int .i64 en, .int .i64 mo, .bool false, .bool la, .int .u8 1, .int .u8 ro, .int .u8 we, .slice A nh c], .int .i64 st, .int .i64 en, .int .i64 mo] W (RdR 0 true v W)) :
    Calls Tryd.prog 26 #[.agg #[.int .i64 st, .int .i64 en, .int .i64 mo, .bool false, .bool la, .int .u8 1, .int .u8 ro, .int .u8 we, .slice A nh c]] w (LstR (cntL v (0 + 1) ++ [en]) w) := by
  have J := Lib.hid H
  obtain ⟨i0, hi0, hz0, hz1, hz2⟩ := info_parts infoS
  clear H
  have HX : Hid (∀ (W : World) (v' : Value), W.ownsRow (w.heap.size + 1) 3 1 v' (0 + 1 + 1) ((cntL v (0 + 1)).map encS ++ [.int .i64 en]) → W.ownsRow (w.heap.size + 1) 3 1 v' (0 + 1 + 1) ((cntL v (0 + 1) ++ [en]).map encS)) := fun W v' h => by rw [List.map_append]; exact h
  go_enter Tryd.func26, Tryd.ntmps26
  go_wp2
  go_quiet (fail)
  obtain ⟨W2, hW2⟩ : ∃ W2, (w.alloc (.cells #[.int .i64 st, .int .i64 en, .int .i64 mo, .bool false, .bool la, .int .u8 1, .int .u8 ro, .int .u8 we, .slice A nh c] 27)).drewN nq = W2 := ⟨_, rfl⟩
  have C2 := Lib.hid (show Below (w.alloc (.cells #[.int .i64 st, .int .i64 en, .int .i64 mo, .bool false, .bool la, .int .u8 1, .int .u8 ro, .int .u8 we, .slice A nh c] 27)).heap.size (w.alloc (.cells #[.int .i64 st, .int .i64 en, .int .i64 mo, .bool false, .bool la, .int .u8 1, .int .u8 ro, .int .u8 we, .slice A nh c] 27)) W2 by rw [← hW2]; exact below_dn (Below.refl _ _) nq)
  rw [hW2]
  clear hW2 nq
  obtain ⟨q0, q1, q2, q3, q4, q5, q6, q7, q8⟩ := row9S C2.out
  have hs2 : w.heap.size + 1 ≤ W2.heap.size := by have := C2.out.size; simpa using this
  go_wp2_with (first
    | (go_at_call 47; ((with_reducible refine (J.out _ (btS (belE_c _ _) C2.out)).mono ?_); rintro x w3 ⟨u, rfl, hown, b, hz⟩; obtain ⟨g, cap, rfl⟩ := ownsRow_succ hown; obtain ⟨hcp, hcm⟩ := own_cap hown; have O3 := Lib.hid ((own_lowS hown (by omega) : w3.ownsRow (w.heap.size + 1) 3 1 _ _ _)); have C3 := Lib.hid (btS C2.out b); have hsz3 := hz; obtain ⟨q0, q1, q2, q3, q4, q5, q6, q7, q8⟩ := row9S C3.out; clear hown b hz))
    | (at_builtin; refine wpList_appS1 O3.out _ rfl _ _ 23 rfl i0 (.int .i64 0) 8 Tryd.underlying23 hi0 hz0 hz1 hz2 rfl rfl rfl rfl (by unfold maxLen; omega) (by omega) (by omega) ?_; intro v' w4 hown hb; have O4 := Lib.hid (HX.out _ _ hown); have C4 := Lib.hid (C3.out.trans (hb.mono (by simp))); have hsz4 := Nat.le_trans hsz3 hb.size; obtain ⟨g4, cap4, rfl⟩ := ownsRow_succ hown; obtain ⟨q0, q1, q2, q3, q4, q5, q6, q7, q8⟩ := row9S C4.out; clear hown hb))
  go_ret
  obtain ⟨A9, c9, e9, e10, h1, h2, h3, h4⟩ := of_ownS O4.out
  exact ⟨A9, c9, by rw [← e10, ← e9]; rfl, h1, h2, by rw [← e10]; exact h3, h4, btS (belE_c _ _) C4.out⟩

set_option maxRecDepth 100000 in
set_option maxHeartbeats 1600000 in
theorem datesOf_0d (st en mo : Int) (la : Bool) (ro we : Int) (A : Option Addr) (c nh : Nat) (v : Nat → Int) (R : Nat) (hR : R ≤ 4000) (m0 : 1 ≤ mo) (m1 : mo ≤ 1200) (w : World)
    (H : ∀ W, Below w.heap.size w W → Calls Tryd.prog 47 #[.agg #[.int .i64 st, .int .i64 en, .int .i64 mo, .bool false, .bool la, .int .u8 1, .int .u8 ro, .int .u8 we, .slice A nh c], .int .i64 st, .int .i64 en, .int .i64 mo] W (RdR (R + 1) true v W)) :
    Calls Tryd.prog 26 #[.agg #[.int .i64 st, .int .i64 en, .int .i64 mo, .bool false, .bool la, .int .u8 1, .int .u8 ro, .int .u8 we, .slice A nh c]] w (LstR (cntL v (R + 1) ++ [en]) w) := by
  have J := Lib.hid H
  obtain ⟨i0, hi0, hz0, hz1, hz2⟩ := info_parts infoS
  clear H
  have HX : Hid (∀ (W : World) (v' : Value), W.ownsRow (w.heap.size + 1) 3 1 v' (R + 1 + 1) (((cntL v (R + 1 + 1)).map encS).take (R + 1) ++ [.int .i64 en]) → W.ownsRow (w.heap.size + 1) 3 1 v' (R + 1 + 1) ((cntL v (R + 1) ++ [en]).map encS)) := fun W v' h => by rw [List.map_append, ← cntL_take v (R + 1 + 1) (R + 1) (by omega), List.map_take]; exact h
  go_enter Tryd.func26, Tryd.ntmps26
  go_wp2
  go_quiet (fail)
  obtain ⟨W2, hW2⟩ : ∃ W2, (w.alloc (.cells #[.int .i64 st, .int .i64 en, .int .i64 mo, .bool false, .bool la, .int .u8 1, .int .u8 ro, .int .u8 we, .slice A nh c] 27)).drewN nq = W2 := ⟨_, rfl⟩
  have C2 := Lib.hid (show Below (w.alloc (.cells #[.int .i64 st, .int .i64 en, .int .i64 mo, .bool false, .bool la, .int .u8 1, .int .u8 ro, .int .u8 we, .slice A nh c] 27)).heap.size (w.alloc (.cells #[.int .i64 st, .int .i64 en, .int .i64 mo, .bool false, .bool la, .int .u8 1, .int .u8 ro, .int .u8 we, .slice A nh c] 27)) W2 by rw [← hW2]; exact below_dn (Below.refl _ _) nq)
  rw [hW2]
  clear hW2 nq
  obtain ⟨q0, q1, q2, q3, q4, q5, q6, q7, q8⟩ := row9S C2.out
  have hs2 : w.heap.size + 1 ≤ W2.heap.size := by have := C2.out.size; simpa using this
  go_wp2_with (first
    | (go_at_call 47; ((with_reducible refine (J.out _ (btS (belE_c _ _) C2.out)).mono ?_); rintro x w3 ⟨u, rfl, hown, b, hz⟩; obtain ⟨g, cap, rfl⟩ := ownsRow_succ hown; obtain ⟨hcp, hcm⟩ := own_cap hown; have O3 := Lib.hid (own_takeS (own_lowS hown (by omega) : w3.ownsRow (w.heap.size + 1) 3 1 _ _ _) (R + 1) (by omega)); have C3 := Lib.hid (btS C2.out b); have hsz3 := hz; obtain ⟨q0, q1, q2, q3, q4, q5, q6, q7, q8⟩ := row9S C3.out; clear hown b hz))
    | (at_builtin; refine wpList_appS1 O3.out _ rfl _ _ 23 rfl i0 (.int .i64 0) 8 Tryd.underlying23 hi0 hz0 hz1 hz2 rfl rfl rfl rfl (by unfold maxLen; omega) (by omega) (by omega) ?_; intro v' w4 hown hb; have O4 := Lib.hid (HX.out _ _ hown); have C4 := Lib.hid (C3.out.trans (hb.mono (by simp))); have hsz4 := Nat.le_trans hsz3 hb.size; obtain ⟨g4, cap4, rfl⟩ := ownsRow_succ hown; obtain ⟨q0, q1, q2, q3, q4, q5, q6, q7, q8⟩ := row9S C4.out; clear hown hb))
  go_ret
  obtain ⟨A9, c9, e9, e10, h1, h2, h3, h4⟩ := of_ownS O4.out
  exact ⟨A9, c9, by rw [← e10, ← e9]; rfl, h1, h2, by rw [← e10]; exact h3, h4, btS (belE_c _ _) C4.out⟩

set_option maxRecDepth 100000 in
set_option maxHeartbeats 1600000 in
theorem datesOf_1a (st en mo : Int) (la : Bool) (sb ro we : Int) (A : Option Addr) (c nh : Nat) (v : Nat → Int) (R : Nat) (hR : R ≤ 4000) (m0 : 1 ≤ mo) (m1 : mo ≤ 1200) (w : World)
    (H : ∀ W, Below w.heap.size w W → Calls Tryd.prog 47 #[.agg #[.int .i64 st, .int .i64 en, .int .i64 mo, .bool true, .bool la, .int .u8 sb, .int .u8 ro, .int .u8 we, .slice A nh c], .int .i64 en, .int .i64 st, .int .i64 (-mo)] W (RdR R false v W)) :
    Calls Tryd.prog 26 #[.agg #[.int .i64 st, .int .i64 en, .int .i64 mo, .bool true, .bool la, .int .u8 sb, .int .u8 ro, .int .u8 we, .slice A nh c]] w (LstR (cntL v (R + 1) ++ [st]).reverse w) := by
  have J := Lib.hid H
  obtain ⟨i0, hi0, hz0, hz1, hz2⟩ := info_parts infoS
  clear H
  have HX : Hid (∀ (W : World) (v' : Value), W.ownsRow (w.heap.size + 1) 3 1 v' (R + 1 + 1) ((cntL v (R + 1)).map encS ++ [.int .i64 st]) → W.ownsRow (w.heap.size + 1) 3 1 v' (R + 1 + 1) ((cntL v (R + 1) ++ [st]).map encS)) := fun W v' h => by rw [List.map_append]; exact h
  go_enter Tryd.func26, Tryd.ntmps26
  go_wp2
  go_quiet (fail)
  go_wp2
  obtain ⟨W1, hW1⟩ : ∃ W1, (w.alloc (.cells #[.int .i64 st, .int .i64 en, .int .i64 mo, .bool true, .bool la, .int .u8 sb, .int .u8 ro, .int .u8 we, .slice A nh c] 27)).drewN nq = W1 := ⟨_, rfl⟩
  have C1 := Lib.hid (show Below (w.alloc (.cells #[.int .i64 st, .int .i64 en, .int .i64 mo, .bool true, .bool la, .int .u8 sb, .int .u8 ro, .int .u8 we, .slice A nh c] 27)).heap.size (w.alloc (.cells #[.int .i64 st, .int .i64 en, .int .i64 mo, .bool true, .bool la, .int .u8 sb, .int .u8 ro, .int .u8 we, .slice A nh c] 27)) W1 by rw [← hW1]; exact below_dn (Below.refl _ _) nq)
  rw [hW1]
  clear hW1
  obtain ⟨q0, q1, q2, q3, q4, q5, q6, q7, q8⟩ := row9S C1.out
  clear nq
  go_quiet (fail)
  obtain ⟨W2, hW2⟩ : ∃ W2, W1.drewN nq = W2 := ⟨_, rfl⟩
  have C2 := Lib.hid (show Below (w.alloc (.cells #[.int .i64 st, .int .i64 en, .int .i64 mo, .bool true, .bool la, .int .u8 sb, .int .u8 ro, .int .u8 we, .slice A nh c] 27)).heap.size (w.alloc (.cells #[.int .i64 st, .int .i64 en, .int .i64 mo, .bool true, .bool la, .int .u8 sb, .int .u8 ro, .int .u8 we, .slice A nh c] 27)) W2 by rw [← hW2]; exact below_dn C1.out nq)
  rw [hW2]
  clear hW2 nq
  obtain ⟨q0, q1, q2, q3, q4, q5, q6, q7, q8⟩ := row9S C2.out
  have hs2 : w.heap.size + 1 ≤ W2.heap.size := by have := C2.out.size; simpa using this
  go_wp2_with (first
    | (go_at_call 47; ((with_reducible refine (J.out _ (btS (belE_c _ _) C2.out)).mono ?_); rintro x w3 ⟨u, rfl, hown, b, hz⟩; obtain ⟨g, cap, rfl⟩ := ownsRow_succ hown; obtain ⟨hcp, hcm⟩ := own_cap hown; have O3 := Lib.hid ((own_lowS hown (by omega) : w3.ownsRow (w.heap.size + 1) 3 1 _ _ _)); have C3 := Lib.hid (btS C2.out b); have hsz3 := hz; obtain ⟨q0, q1, q2, q3, q4, q5, q6, q7, q8⟩ := row9S C3.out; clear hown b hz))
    | (at_builtin; refine wpList_appS1 O3.out _ rfl _ _ 23 rfl i0 (.int .i64 0) 8 Tryd.underlying23 hi0 hz0 hz1 hz2 rfl rfl rfl rfl (by unfold maxLen; omega) (by omega) (by omega) ?_; intro v' w4 hown hb; have O4 := Lib.hid (HX.out _ _ hown); have C4 := Lib.hid (C3.out.trans (hb.mono (by simp))); have hsz4 := Nat.le_trans hsz3 hb.size; obtain ⟨g4, cap4, rfl⟩ := ownsRow_succ hown; obtain ⟨q0, q1, q2, q3, q4, q5, q6, q7, q8⟩ := row9S C4.out; clear hown hb)
    | (go_at_call 48; ((with_reducible refine (rev_own _ _ _ _ _ O4.out (by omega) (by omega)).mono ?_); rintro x w5 ⟨rfl, hown, b⟩; have O5 := Lib.hid hown; have C5 := Lib.hid (C4.out.trans (b.mono (by simp))); clear hown b)))
  go_ret
  obtain ⟨A9, c9, e9, e10, h1, h2, h3, h4⟩ := of_ownS O5.out
  exact ⟨A9, c9, by rw [← e10, ← e9]; rfl, h1, h2, by rw [← e10]; exact h3, h4, btS (belE_c _ _) C5.out⟩

set_option maxRecDepth 100000 in
set_option maxHeartbeats 1600000 in
theorem datesOf_1b (st en mo : Int) (la : Bool) (sb ro we : Int) (A : Option Addr) (c nh : Nat) (v : Nat → Int) (R : Nat) (hR : R ≤ 4000) (m0 : 1 ≤ mo) (m1 : mo ≤ 1200) (hs : (sb == 1) = false) (w : World)
    (H : ∀ W, Below w.heap.size w W → Calls Tryd.prog 47 #[.agg #[.int .i64 st, .int .i64 en, .int .i64 mo, .bool true, .bool la, .int .u8 sb, .int .u8 ro, .int .u8 we, .slice A nh c], .int .i64 en, .int .i64 st, .int .i64 (-mo)] W (RdR R true v W)) :
    Calls Tryd.prog 26 #[.agg #[.int .i64 st, .int .i64 en, .int .i64 mo, .bool true, .bool la, .int .u8 sb, .int .u8 ro, .int .u8 we, .slice A nh c]] w (LstR (cntL v (R + 1) ++ [st]).reverse w) := by
  have J := Lib.hid H
  obtain ⟨i0, hi0, hz0, hz1, hz2⟩ := info_parts infoS
  clear H
  have HX : Hid (∀ (W : World) (v' : Value), W.ownsRow (w.heap.size + 1) 3 1 v' (R + 1 + 1) ((cntL v (R + 1)).map encS ++ [.int .i64 st]) → W.ownsRow (w.heap.size + 1) 3 1 v' (R + 1 + 1) ((cntL v (R + 1) ++ [st]).map encS)) := fun W v' h => by rw [List.map_append]; exact h
  go_enter Tryd.func26, Tryd.ntmps26
  go_wp2
  go_quiet (fail)
  go_wp2
  obtain ⟨W1, hW1⟩ : ∃ W1, (w.alloc (.cells #[.int .i64 st, .int .i64 en, .int .i64 mo, .bool true, .bool la, .int .u8 sb, .int .u8 ro, .int .u8 we, .slice A nh c] 27)).drewN nq = W1 := ⟨_, rfl⟩
  have C1 := Lib.hid (show Below (w.alloc (.cells #[.int .i64 st, .int .i64 en, .int .i64 mo, .bool true, .bool la, .int .u8 sb, .int .u8 ro, .int .u8 we, .slice A nh c] 27)).heap.size (w.alloc (.cells #[.int .i64 st, .int .i64 en, .int .i64 mo, .bool true, .bool la, .int .u8 sb, .int .u8 ro, .int .u8 we, .slice A nh c] 27)) W1 by rw [← hW1]; exact below_dn (Below.refl _ _) nq)
  rw [hW1]
  clear hW1
  obtain ⟨q0, q1, q2, q3, q4, q5, q6, q7, q8⟩ := row9S C1.out
  clear nq
  go_quiet (fail)
  obtain ⟨W2, hW2⟩ : ∃ W2, W1.drewN nq = W2 := ⟨_, rfl⟩
  have C2 := Lib.hid (show Below (w.alloc (.cells #[.int .i64 st, .int .i64 en, .int .i64 mo, .bool true, .bool la, .int .u8 sb, .int .u8 ro, .int .u8 we, .slice A nh c] 27)).heap.size (w.alloc (.cells #[.int .i64 st, .int .i64 en, .int .i64 mo, .bool true, .bool la, .int .u8 sb, .int .u8 ro, .int .u8 we, .slice A nh c] 27)) W2 by rw [← hW2]; exact below_dn C1.out nq)
  rw [hW2]
  clear hW2 nq
  obtain ⟨q0, q1, q2, q3, q4, q5, q6, q7, q8⟩ := row9S C2.out
  have hs2 : w.heap.size + 1 ≤ W2.heap.size := by have := C2.out.size; simpa using this
  go_wp2_with (first
    | (go_at_call 47; ((with_reducible refine (J.out _ (btS (belE_c _ _) C2.out)).mono ?_); rintro x w3 ⟨u, rfl, hown, b, hz⟩; obtain ⟨g, cap, rfl⟩ := ownsRow_succ hown; obtain ⟨hcp, hcm⟩ := own_cap hown; have O3 := Lib.hid ((own_lowS hown (by omega) : w3.ownsRow (w.heap.size + 1) 3 1 _ _ _)); have C3 := Lib.hid (btS C2.out b); have hsz3 := hz; obtain ⟨q0, q1, q2, q3, q4, q5, q6, q7, q8⟩ := row9S C3.out; clear hown b hz))
    | (at_builtin; refine wpList_appS1 O3.out _ rfl _ _ 23 rfl i0 (.int .i64 0) 8 Tryd.underlying23 hi0 hz0 hz1 hz2 rfl rfl rfl rfl (by unfold maxLen; omega) (by omega) (by omega) ?_; intro v' w4 hown hb; have O4 := Lib.hid (HX.out _ _ hown); have C4 := Lib.hid (C3.out.trans (hb.mono (by simp))); have hsz4 := Nat.le_trans hsz3 hb.size; obtain ⟨g4, cap4, rfl⟩ := ownsRow_succ hown; obtain ⟨q0, q1, q2, q3, q4, q5, q6, q7, q8⟩ := row9S C4.out; clear hown hb)
    | (go_at_call 48; ((with_reducible refine (rev_own _ _ _ _ _ O4.out (by omega) (by omega)).mono ?_); rintro x w5 ⟨rfl, hown, b⟩; have O5 := Lib.hid hown; have C5 := Lib.hid (C4.out.trans (b.mono (by simp))); clear hown b)))
  go_ret
  obtain ⟨A9, c9, e9, e10, h1, h2, h3, h4⟩ := of_ownS O5.out
  exact ⟨A9, c9, by rw [← e10, ← e9]; rfl, h1, h2, by rw [← e10]; exact h3, h4, btS (belE_c _ _) C5.out⟩

set_option maxRecDepth 100000 in
set_option maxHeartbeats 1600000 in
theorem datesOf_1c (st en mo : Int) (la : Bool) (ro we : Int) (A : Option Addr) (c nh : Nat) (v : Nat → Int) (m0 : 1 ≤ mo) (m1 : mo ≤ 1200) (w : World)
    (H : ∀ W, Below w.heap.size w W → Calls Tryd.prog 47 #[.agg #[.int .i64 st, .int .i64 en, .int .i64 mo, .bool true, .bool la, .int .u8 1, .int .u8 ro, .int .u8 we, .slice A nh c], .int .i64 en, .int .i64 st, .int .i64 (-mo)] W (RdR 0 true v W)) :
    Calls Tryd.prog 26 #[.agg #[.int .i64 st, .int .i64 en, .int .i64 mo, .bool true, .bool la, .int .u8 1, .int .u8 ro, .int .u8 we, .slice A nh c]] w (LstR (cntL v (0 + 1) ++ [st]).reverse w) := by
  have J := Lib.hid H
  obtain ⟨i0, hi0, hz0, hz1, hz2⟩ := info_parts infoS
  clear H
  have HX : Hid (∀ (W : World) (v' : Value), W.ownsRow (w.heap.size + 1) 3 1 v' (0 + 1 + 1) ((cntL v (0 + 1)).map encS ++ [.int .i64 st]) → W.ownsRow (w.heap.size + 1) 3 1 v' (0 + 1 + 1) ((cntL v (0 + 1) ++ [st]).map encS)) := fun W v' h => by rw [List.map_append]; exact h
  go_enter Tryd.func26, Tryd.ntmps26
  go_wp2
  go_quiet (fail)
  go_wp2
  obtain ⟨W1, hW1⟩ : ∃ W1, (w.alloc (.cells #[.int .i64 st, .int .i64 en, .int .i64 mo, .bool true, .bool la, .int .u8 1, .int .u8 ro, .int .u8 we, .slice A nh c] 27)).drewN nq = W1 := ⟨_, rfl⟩
  have C1 := Lib.hid (show Below (w.alloc (.cells #[.int .i64 st, .int .i64 en, .int .i64 mo, .bool true, .bool la, .int .u8 1, .int .u8 ro, .int .u8 we, .slice A nh c] 27)).heap.size (w.alloc (.cells #[.int .i64 st, .int .i64 en, .int .i64 mo, .bool true, .bool la, .int .u8 1, .int .u8 ro, .int .u8 we, .slice A nh c] 27)) W1 by rw [← hW1]; exact below_dn (Below.refl _ _) nq)
  rw [hW1]
  clear hW1
  obtain ⟨q0, q1, q2, q3, q4, q5, q6, q7, q8⟩ := row9S C1.out
  clear nq
  go_quiet (fail)
  obtain ⟨W2, hW2⟩ : ∃ W2, W1.drewN nq = W2 := ⟨_, rfl⟩
  have C2 := Lib.hid (show Below (w.alloc (.cells #[.int .i64 st, .int .i64 en, .int .i64 mo, .bool true, .bool la, .int .u8 1, .int .u8 ro, .int .u8 we, .slice A nh c] 27)).heap.size (w.alloc (.cells #[.int .i64 st, .int .i64 en, .int .i64 mo, .bool true, .bool la, .int .u8 1, .int .u8 ro, .int .u8 we, .slice A nh c] 27)) W2 by rw [← hW2]; exact below_dn C1.out nq)
  rw [hW2]
  clear hW2 nq
  obtain ⟨q0, q1, q2, q3, q4, q5, q6, q7, q8⟩ := row9S C2.out
  have hs2 : w.heap.size + 1 ≤ W2.heap.size := by have := C2.out.size; simpa using this
  go_wp2_with (first
    | (go_at_call 47; ((with_reducible refine (J.out _ (btS (belE_c _ _) C2.out)).mono ?_); rintro x w3 ⟨u, rfl, hown, b, hz⟩; obtain ⟨g, cap, rfl⟩ := ownsRow_succ hown; obtain ⟨hcp, hcm⟩ := own_cap hown; have O3 := Lib.hid ((own_lowS hown (by omega) : w3.ownsRow (w.heap.size + 1) 3 1 _ _ _)); have C3 := Lib.hid (btS C2.out b); have hsz3 := hz; obtain ⟨q0, q1, q2, q3, q4, q5, q6, q7, q8⟩ := row9S C3.out; clear hown b hz))
    | (at_builtin; refine wpList_appS1 O3.out _ rfl _ _ 23 rfl i0 (.int .i64 0) 8 Tryd.underlying23 hi0 hz0 hz1 hz2 rfl rfl rfl rfl (by unfold maxLen; omega) (by omega) (by omega) ?_; intro v' w4 hown hb; have O4 := Lib.hid (HX.out _ _ hown); have C4 := Lib.hid (C3.out.trans (hb.mono (by simp))); have hsz4 := Nat.le_trans hsz3 hb.size; obtain ⟨g4, cap4, rfl⟩ := ownsRow_succ hown; obtain ⟨q0, q1, q2, q3, q4, q5, q6, q7, q8⟩ := row9S C4.out; clear hown hb)
    | (go_at_call 48; ((with_reducible refine (rev_own _ _ _ _ _ O4.out (by omega) (by omega)).mono ?_); rintro x w5 ⟨rfl, hown, b⟩; have O5 := Lib.hid hown; have C5 := Lib.hid (C4.out.trans (b.mono (by simp))); clear hown b)))
  go_ret
  obtain ⟨A9, c9, e9, e10, h1, h2, h3, h4⟩ := of_ownS O5.out
  exact ⟨A9, c9, by rw [← e10, ← e9]; rfl, h1, h2, by rw [← e10]; exact h3, h4, btS (belE_c _ _) C5.out⟩

set_option maxRecDepth 100000 in
set_option maxHeartbeats 1600000 in
theorem datesOf_1d (st en mo : Int) (la : Bool) (ro we : Int) (A : Option Addr) (c nh : Nat) (v : Nat → Int) (R : Nat) (hR : R ≤ 4000) (m0 : 1 ≤ mo) (m1 : mo ≤ 1200) (w : World)
    (H : ∀ W, Below w.heap.size w W → Calls Tryd.prog 47 #[.agg #[.int .i64 st, .int .i64 en, .int .i64 mo, .bool true, .bool la, .int .u8 1, .int .u8 ro, .int .u8 we, .slice A nh c], .int .i64 en, .int .i64 st, .int .i64 (-mo)] W (RdR (R + 1) true v W)) :
    Calls Tryd.prog 26 #[.agg #[.int .i64 st, .int .i64 en, .int .i64 mo, .bool true, .bool la, .int .u8 1, .int .u8 ro, .int .u8 we, .slice A nh c]] w (LstR (cntL v (R + 1) ++ [st]).reverse w) := by
  have J := Lib.hid H
  obtain ⟨i0, hi0, hz0, hz1, hz2⟩ := info_parts infoS
  clear H
  have HX : Hid (∀ (W : World) (v' : Value), W.ownsRow (w.heap.size + 1) 3 1 v' (R + 1 + 1) (((cntL v (R + 1 + 1)).map encS).take (R + 1) ++ [.int .i64 st]) → W.ownsRow (w.heap.size + 1) 3 1 v' (R + 1 + 1) ((cntL v (R + 1) ++ [st]).map encS)) := fun W v' h => by rw [List.map_append, ← cntL_take v (R + 1 + 1) (R + 1) (by omega), List.map_take]; exact h
  go_enter Tryd.func26, Tryd.ntmps26
  go_wp2
  go_quiet (fail)
  go_wp2
  obtain ⟨W1, hW1⟩ : ∃ W1, (w.alloc (.cells #[.int .i64 st, .int .i64 en, .int .i64 mo, .bool true, .bool la, .int .u8 1, .int .u8 ro, .int .u8 we, .slice A nh c] 27)).drewN nq = W1 := ⟨_, rfl⟩
  have C1 := Lib.hid (show Below (w.alloc (.cells #[.int .i64 st, .int .i64 en, .int .i64 mo, .bool true, .bool la, .int .u8 1, .int .u8 ro, .int .u8 we, .slice A nh c] 27)).heap.size (w.alloc (.cells #[.int .i64 st, .int .i64 en, .int .i64 mo, .bool true, .bool la, .int .u8 1, .int .u8 ro, .int .u8 we, .slice A nh c] 27)) W1 by rw [← hW1]; exact below_dn (Below.refl _ _) nq)
  rw [hW1]
  clear hW1
  obtain ⟨q0, q1, q2, q3, q4, q5, q6, q7, q8⟩ := row9S C1.out
  clear nq
  go_quiet (fail)
  obtain ⟨W2, hW2⟩ : ∃ W2, W1.drewN nq = W2 := ⟨_, rfl⟩
  have C2 := Lib.hid (show Below (w.alloc (.cells #[.int .i64 st, .int .i64 en, .int .i64 mo, .bool true, .bool la, .int .u8 1, .int .u8 ro, .int .u8 we, .slice A nh c] 27)).heap.size (w.alloc (.cells #[.int .i64 st, .int .i64 en, .int .i64 mo, .bool true, .bool la, .int .u8 1, .int .u8 ro, .int .u8 we, .slice A nh c] 27)) W2 by rw [← hW2]; exact below_dn C1.out nq)
  rw [hW2]
  clear hW2 nq
  obtain ⟨q0, q1, q2, q3, q4, q5, q6, q7, q8⟩ := row9S C2.out
  have hs2 : w.heap.size + 1 ≤ W2.heap.size := by have := C2.out.size; simpa using this
  go_wp2_with (first
    | (go_at_call 47; ((with_reducible refine (J.out _ (btS (belE_c _ _) C2.out)).mono ?_); rintro x w3 ⟨u, rfl, hown, b, hz⟩; obtain ⟨g, cap, rfl⟩ := ownsRow_succ hown; obtain ⟨hcp, hcm⟩ := own_cap hown; have O3 := Lib.hid (own_takeS (own_lowS hown (by omega) : w3.ownsRow (w.heap.size + 1) 3 1 _ _ _) (R + 1) (by omega)); have C3 := Lib.hid (btS C2.out b); have hsz3 := hz; obtain ⟨q0, q1, q2, q3, q4, q5, q6, q7, q8⟩ := row9S C3.out; clear hown b hz))
    | (at_builtin; refine wpList_appS1 O3.out _ rfl _ _ 23 rfl i0 (.int .i64 0) 8 Tryd.underlying23 hi0 hz0 hz1 hz2 rfl rfl rfl rfl (by unfold maxLen; omega) (by omega) (by omega) ?_; intro v' w4 hown hb; have O4 := Lib.hid (HX.out _ _ hown); have C4 := Lib.hid (C3.out.trans (hb.mono (by simp))); have hsz4 := Nat.le_trans hsz3 hb.size; obtain ⟨g4, cap4, rfl⟩ := ownsRow_succ hown; obtain ⟨q0, q1, q2, q3, q4, q5, q6, q7, q8⟩ := row9S C4.out; clear hown hb)
    | (go_at_call 48; ((with_reducible refine (rev_own _ _ _ _ _ O4.out (by omega) (by omega)).mono ?_); rintro x w5 ⟨rfl, hown, b⟩; have O5 := Lib.hid hown; have C5 := Lib.hid (C4.out.trans (b.mono (by simp))); clear hown b)))
  go_ret
  obtain ⟨A9, c9, e9, e10, h1, h2, h3, h4⟩ := of_ownS O5.out
  exact ⟨A9, c9, by rw [← e10, ← e9]; rfl, h1, h2, by rw [← e10]; exact h3, h4, btS (belE_c _ _) C5.out⟩
end Go.Proofs.YtfheeipggedaiaaDoor

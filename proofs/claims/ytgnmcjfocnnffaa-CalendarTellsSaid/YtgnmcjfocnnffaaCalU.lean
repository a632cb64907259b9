/- Layer 4: the program's walks: the days of both of two calendars. -/
import Derived.Test.YtgnmcjfocnnffaaCalS
import Derived.Test.YtgnmcjfocnnffaaCalT
import Derived.Test.YtgnmcjfocnnffaaShelf2
import Derived.Sort.OwnSortedInts
namespace Go.Proofs.Ytgnmcjfocnnffaa
open Go Go.RowKit Go.Lib Go.Sort

/-- What of the two has been put together. -/
def catK (xs ys : List Int) (k : Nat) : List Int := if k = 0 then [] else if k = 1 then xs else xs ++ ys

set_option maxRecDepth 100000 in
set_option maxHeartbeats 3200000 in
theorem concat_any (D : Nat) (A1 A2 : Option Addr) (c1 c2 : Nat) (xs ys : List Int) (w : World) (hD : w.heap[D]? = some (.cells #[.slice A1 xs.length c1, .slice A2 ys.length c2] 22 (0, 0)))
    (h1 : HsA w A1 xs) (h2 : HsA w A2 ys) (n1 : A1 = none → c1 = 0) (n2 : A2 = none → c2 = 0) (l1 : xs.length ≤ 1000) (l2 : ys.length ≤ 1000) :
    Calls Try.prog 23 #[.slice (some ⟨D, 0, none⟩) 2 2] w fun e w' => ∃ v, e = .returned v ∧ w'.ownsRow w.heap.size 3 1 v (xs.length + ys.length) ((xs ++ ys).map encZ) ∧ Below w.heap.size w w' := by
  obtain ⟨i0, hi, hz0, hz1, hz2⟩ := info_parts infoZ
  have HG := Lib.hid (grow_any (xs.length + ys.length) (by omega) w)
  have d0 : w.cell? ⟨D, 0, none⟩ = some (.slice A1 xs.length c1) := by unfold World.cell?; rw [hD]; rfl
  have d1 : w.cell? ⟨D, 1, none⟩ = some (.slice A2 ys.length c2) := by unfold World.cell?; rw [hD]; rfl
  have HD := Lib.hid hD
  have H1 := Lib.hid h1
  have H2 := Lib.hid h2
  have N1 := Lib.hid n1
  have N2 := Lib.hid n2
  have e12 : ((xs.length + ys.length : Nat) : Int) = (xs.length : Int) + (ys.length : Int) := by omega
  rw [e12] at HG
  clear hD h1 h2 n1 n2 e12
  go_enter Try.func23, Try.ntmps23
  go_wp2
  go_loopw [3, 11] (fun s i wr => ∃ k : Nat, k ≤ 2 ∧ i = .int .i64 k ∧ s = .int .i64 (catK xs ys k).length ∧ w = wr) (fun i s _ => 2 - (intOf s).toNat)
  case atStart => exact ⟨0, by omega, rfl, rfl, rfl⟩
  case round =>
    obtain ⟨k, hk, rfl, rfl, rfl⟩ := hrel
    have hks : k = 0 ∨ k = 1 ∨ k = 2 := by omega
    rcases hks with rfl | rfl | rfl
    · have e0 : ((catK xs ys 0).length : Int) = 0 := rfl
      rw [e0]
      go_wp2
      go_roundw
      case rel => exact ⟨1, by omega, by first | rfl | simp, by first | rfl | simp [catK], by first | rfl | trivial⟩
      case measure => simp [intOf]
    · have e0 : ((catK xs ys 1).length : Int) = (xs.length : Int) := rfl
      rw [e0]
      go_wp2
      go_roundw
      case rel => exact ⟨2, by omega, by first | rfl | simp, int_eq (by simp [catK]), by first | rfl | trivial⟩
      case measure => simp [intOf]
    · have e0 : ((catK xs ys 2).length : Int) = (xs.length : Int) + (ys.length : Int) := by simp [catK]
      rw [e0]
      go_wp2_with (go_at_call 29; ((with_reducible refine HG.out.mono ?_); rintro e w1 ⟨v, rfl, hown, _, _, hb⟩))
      have B1 := Lib.hid hb
      have O1 : Hid (w1.ownsRow w.heap.size 3 1 v 0 []) := hown
      clear hown hb HG d0 d1
      go_loopw [6, 27] (fun s i wr => ∃ k : Nat, k ≤ 2 ∧ i = .int .i64 k ∧ Hid (wr.ownsRow w.heap.size 3 1 s (catK xs ys k).length ((catK xs ys k).map encZ)) ∧ Hid (Below w.heap.size w wr)) (fun _ i _ => 2 - (intOf i).toNat)
      case atStart => exact ⟨0, by omega, rfl, O1, B1⟩
      case round =>
        clear O1 B1
        obtain ⟨k, hk, rfl, hown, HB⟩ := hrel
        have hks : k = 0 ∨ k = 1 ∨ k = 2 := by omega
        have hDr : wr.heap[D]? = some (.cells #[.slice A1 xs.length c1, .slice A2 ys.length c2] 22 (0, 0)) := (HB.out.block D (lt_of_block HD.out)).trans HD.out
        have d0 : wr.cell? ⟨D, 0, none⟩ = some (.slice A1 xs.length c1) := by unfold World.cell?; rw [hDr]; rfl
        have d1 : wr.cell? ⟨D, 1, none⟩ = some (.slice A2 ys.length c2) := by unfold World.cell?; rw [hDr]; rfl
        have HS := Lib.hid HB.out.size
        clear hDr
        obtain ⟨A', c', rfl, hl', _, _, _, _⟩ := HsA.of_own hown.out
        rcases hks with rfl | rfl | rfl
        · rw [show (catK xs ys 0).length = 0 from rfl] at hown ⊢
          go_wp2_with (at_builtin; refine wpList_appZ hown.out A1 xs xs.length c1 rfl (H1.out.below HB.out) N1.out rfl _ _ 22 rfl i0 (.int .i64 0) 8 Try.underlying22 hi hz0 hz1 hz2 rfl rfl rfl (by unfold maxLen; omega) (by omega) HS.out ?_; intro v' w2 hown2 hb2; have O2 := Lib.hid hown2; have B2 := Lib.hid (HB.out.trans hb2); clear hown2 hb2)
          go_roundw
          case rel => exact ⟨1, by omega, by first | rfl | simp, by show World.ownsRow _ _ _ _ _ _ _; have := O2.out; simpa [catK] using this, B2⟩
          case measure => simp [intOf]
        · rw [show (catK xs ys 1).length = xs.length from rfl] at hown ⊢
          go_wp2_with (at_builtin; refine wpList_appZ hown.out A2 ys ys.length c2 rfl (H2.out.below HB.out) N2.out rfl _ _ 22 rfl i0 (.int .i64 0) 8 Try.underlying22 hi hz0 hz1 hz2 rfl rfl rfl (by unfold maxLen; omega) (by omega) HS.out ?_; intro v' w2 hown2 hb2; have O2 := Lib.hid hown2; have B2 := Lib.hid (HB.out.trans hb2); clear hown2 hb2)
          go_roundw
          case rel => exact ⟨2, by omega, by first | rfl | simp, by show World.ownsRow _ _ _ _ _ _ _; have := O2.out; simpa [catK] using this, B2⟩
          case measure => simp [intOf]
        · go_wp2
          go_ret
          exact ⟨_, rfl, by have := hown.out; simpa [catK] using this, HB.out⟩

theorem own_low {w : World} {base base' : Nat} {e : TypeId} {size : Nat} {v : Value} {n : Nat} {xs : List Value} (h : w.ownsRow base e size v n xs) (hb : base' ≤ base) : w.ownsRow base' e size v n xs := by
  refine ⟨h.1, ?_⟩
  rcases h.2 with h0 | ⟨g, cap, cur, hv, hg, r⟩
  · exact .inl h0
  · exact .inr ⟨g, cap, cur, hv, Nat.le_trans hb hg, r⟩
theorem own_take {w : World} {base : Nat} {e : TypeId} {g n cap : Nat} {xs : List Value} (h : w.ownsRow base e 1 (.slice (some ⟨g, 0, none⟩) n cap) n xs) (k : Nat) (hk : k ≤ n) : w.ownsRow base e 1 (.slice (some ⟨g, 0, none⟩) k cap) k (xs.take k) := by
  have hl := h.1
  rcases h.2 with ⟨h0, _⟩ | ⟨g', cap', cur, hv, hb, hh, hn, hm, hs, ht⟩
  · cases h0
  · obtain ⟨rfl, rfl⟩ : g = g' ∧ cap = cap' := by injection hv with h1 h2 h3; injection h1 with h1; injection h1 with h1; exact ⟨h1, h3⟩
    refine ⟨by rw [List.length_take]; omega, .inr ⟨g, cap, cur, rfl, hb, hh, by omega, hm, hs, ?_⟩⟩
    rw [← ht, List.take_take]
    congr 1
    omega
theorem compact_len (zs : List Int) : (compact zs).length ≤ zs.length := by
  unfold compact compactUpTo
  rw [List.length_map]
  exact Nat.le_trans (List.length_filter_le _ _) (by simp)
theorem sort_own (base : Nat) (v : Value) (m : Nat) (zs : List Int) (w : World) (h : w.ownsRow base 3 1 v m (zs.map encZ)) (hb : base ≤ w.heap.size) (hm : m ≤ 4000) :
    Calls Try.prog 24 #[v] w fun e w' => e = .returned (.tuple #[]) ∧ w'.ownsRow base 3 1 v m ((zs.mergeSort fun x y => decide (x ≤ y)).map encZ) ∧ Below base w w' := by
  have hl : zs.length = m := by have := h.1; simpa using this
  rcases h.2 with ⟨rfl, rfl⟩ | ⟨g, cap, cur, rfl, hg, hh, hn, hc, hs, ht⟩
  · have hz : zs = [] := List.eq_nil_of_length_eq_zero hl
    subst hz
    refine (Try.slices_Sort_int_none none 0 w).mono ?_
    rintro e w' ⟨rfl, rfl⟩
    exact ⟨rfl, by rw [List.mergeSort_nil]; exact World.ownsRow_nil _ _ _ _, Below.refl _ _⟩
  · subst hl
    rw [Nat.mul_one] at ht
    have hc1 := Try.slices_Sort_int g 0 cap zs w (holds_of_blockI hh ht) (lt_of_block hh) (by omega)
    refine hc1.mono ?_
    rintro e w' ⟨rfl, n, os, rfl⟩
    refine ⟨rfl, ownsRow_sortedI (by simp) hg hh hn hc hs, ?_⟩
    exact (Below.refl _ w).grown (grownBy_sortedI _) hb (fun k hk => by cases hk; exact hg)
theorem compact_own (base : Nat) (v : Value) (m : Nat) (zs : List Int) (w : World) (h : w.ownsRow base 3 1 v m (zs.map encZ)) (hb : base ≤ w.heap.size) (hm : m ≤ 4000) :
    Calls Try.prog 25 #[v] w fun e w' => ∃ v', e = .returned v' ∧ w'.ownsRow base 3 1 v' (compact zs).length ((compact zs).map encZ) ∧ Below base w w' := by
  have hl : zs.length = m := by have := h.1; simpa using this
  rcases h.2 with ⟨rfl, rfl⟩ | ⟨g, cap, cur, rfl, hg, hh, hn, hc, hs, ht⟩
  · have hz : zs = [] := List.eq_nil_of_length_eq_zero hl
    subst hz
    refine (Try.slices_Compact_int_empty none 0 w).mono ?_
    rintro e w' ⟨rfl, rfl⟩
    exact ⟨_, rfl, World.ownsRow_nil _ _ _ _, Below.refl _ _⟩
  · subst hl
    rw [Nat.mul_one] at ht
    refine (Try.slices_Compact_int g 0 cap zs w (holds_of_blockI hh ht) (by omega) hn).mono ?_
    rintro e w' ⟨rfl, q, rfl⟩
    have hcl := compact_len zs
    have ho : (putRow (Value.int .i64) (Sort.ahead w q) g 0 (compact zs ++ List.replicate (zs.length - (compact zs).length) 0).toArray).ownsRow base 3 1 (.slice (some ⟨g, 0, none⟩) zs.length cap) zs.length ((compact zs ++ List.replicate (zs.length - (compact zs).length) 0).map encZ) := by
      have := ownsRow_sortedI (n := q) (os := #[]) (ts := compact zs ++ List.replicate (zs.length - (compact zs).length) 0) (ss := zs) (base := base) (by simp; omega) hg hh hn hc hs
      rw [grow_empty] at this
      exact this
    have ht2 := own_take ho (compact zs).length hcl
    have hgr : w.grownBy (putRow (Value.int .i64) (Sort.ahead w q) g 0 (compact zs ++ List.replicate (zs.length - (compact zs).length) 0).toArray) (some g) := by
      have := grownBy_sortedI (w := w) (g := g) (n := q) (os := #[]) (compact zs ++ List.replicate (zs.length - (compact zs).length) 0).toArray
      rw [grow_empty] at this
      exact this
    refine ⟨_, rfl, ?_, (Below.refl _ w).grown hgr hb (fun k hk => by cases hk; exact hg)⟩
    rw [← List.map_take, List.take_left'] at ht2
    · exact ht2
    · rfl

set_option maxRecDepth 100000 in
set_option maxHeartbeats 1600000 in
theorem union_any (A1 A2 : Option Addr) (c1 c2 : Nat) (xs ys : List Int) (w : World) (h1 : HsA w A1 xs) (h2 : HsA w A2 ys) (n1 : A1 = none → c1 = 0) (n2 : A2 = none → c2 = 0) (l1 : xs.length ≤ 1000) (l2 : ys.length ≤ 1000) :
    Calls Try.prog 16 #[.slice A1 xs.length c1, .slice A2 ys.length c2] w fun e w' => ∃ v, e = .returned v ∧ w'.ownsRow w.heap.size 3 1 v (uniL xs ys).length ((uniL xs ys).map encZ) ∧ Below w.heap.size w w' := by
  have hb0 := bel1 w (.cells #[.slice A1 xs.length c1, .slice A2 ys.length c2] 22)
  have HC := Lib.hid (concat_any w.heap.size A1 A2 c1 c2 xs ys (w.alloc (.cells #[.slice A1 xs.length c1, .slice A2 ys.length c2] 22)) (heap_alloc_new _ _) (h1.below hb0) (h2.below hb0) n1 n2 l1 l2)
  have HB0 := Lib.hid hb0
  have HS : Hid (∀ (v : Value) (w' : World), w'.ownsRow (w.heap.size + 1) 3 1 v (xs.length + ys.length) ((xs ++ ys).map encZ) → w.heap.size + 1 ≤ w'.heap.size → Calls _ _ _ _ _) := fun v w' ho hb => sort_own (w.heap.size + 1) v (xs.length + ys.length) (xs ++ ys) w' ho hb (by omega)
  have HK : Hid (∀ (v : Value) (w' : World), w'.ownsRow (w.heap.size + 1) 3 1 v (xs.length + ys.length) (((xs ++ ys).mergeSort fun x y => decide (x ≤ y)).map encZ) → w.heap.size + 1 ≤ w'.heap.size → Calls _ _ _ _ _) := fun v w' ho hb => compact_own (w.heap.size + 1) v (xs.length + ys.length) ((xs ++ ys).mergeSort fun x y => decide (x ≤ y)) w' ho hb (by omega)
  rw [World.size_alloc] at HC
  clear h1 h2 n1 n2 hb0
  go_enter Try.func16, Try.ntmps16
  go_wp2_with (first
    | (go_at_call 23; ((with_reducible refine HC.out.mono ?_); rintro e w1 ⟨v, rfl, ho, hb⟩; have O1 := Lib.hid ho; have Z1 := Lib.hid (show w.heap.size + 1 ≤ w1.heap.size by have := hb.size; simpa using this); have B1 := Lib.hid (HB0.out.trans (hb.mono (by simp))); clear ho hb))
    | (go_at_call 24; ((with_reducible refine (HS.out _ _ O1.out Z1.out).mono ?_); rintro e w2 ⟨rfl, ho, hb⟩; have O2 := Lib.hid ho; have Z2 := Lib.hid (Nat.le_trans Z1.out hb.size); have B2 := Lib.hid (B1.out.trans (hb.mono (by omega))); clear ho hb))
    | (go_at_call 25; ((with_reducible refine (HK.out _ _ O2.out Z2.out).mono ?_); rintro e w3 ⟨v', rfl, ho, hb⟩; have O3 := Lib.hid ho; have B3 := Lib.hid (B2.out.trans (hb.mono (by omega))); clear ho hb)))
  go_ret
  exact ⟨_, rfl, own_low O3.out (by omega), B3.out⟩
end Go.Proofs.Ytgnmcjfocnnffaa

/- Layer 9: a list of strings that the call has built: sorted, made free of repetitions. -/
import Derived.Test.YtalejbabhjlehaaGreatDoorPk3
import Derived.Test.YtalejbabhjlehaaGreatDoorShelf3
import Derived.Sort.OwnSorted
import Derived.Shelf.Slices.CompactS
namespace Go.Proofs.YtalejbabhjlehaaGreatDoor
open Go Go.RowKit Go.Lib Go.Sort
theorem grow_emptyC (w : World) : grow w #[] = w := by unfold grow; simp
theorem keeps_row {w w' : World} {g : Nat} {cur : Array Value} {e : TypeId} (hh : w.heap[g]? = some (.cells cur e (0, 0))) (hg : w.grownBy w' (some g)) : KeepsOthers w w' := KeepsOthers.of_grownBy hg fun j o ej hj => by cases ej; rw [hh] at hj; cases hj; rfl
theorem own_formC {w : World} {base : Nat} {e : TypeId} {v : Value} {k : Nat} {xs : List Value} (h : w.ownsRow base e 1 v k xs) : ∃ A c, v = .slice A k c ∧ (∀ b, v.ownBlock = some b → b < w.heap.size) := by
  rcases h.2 with ⟨rfl, rfl⟩ | ⟨g, cap, cur, rfl, hb, hh, _⟩
  · exact ⟨none, 0, rfl, fun b hb => by simp [Value.ownBlock] at hb⟩
  · exact ⟨_, _, rfl, fun b hb => by obtain rfl : g = b := by simpa [Value.ownBlock] using hb
                                     exact (Array.getElem?_eq_some_iff.1 hh).1⟩
theorem own_takeC {w : World} {base : Nat} {e : TypeId} {g n cap : Nat} {xs : List Value} (h : w.ownsRow base e 1 (.slice (some ⟨g, 0, none⟩) n cap) n xs) (k : Nat) (hk : k ≤ n) : w.ownsRow base e 1 (.slice (some ⟨g, 0, none⟩) k cap) k (xs.take k) := by
  have hl := h.1
  rcases h.2 with ⟨h0, _⟩ | ⟨g', cap', cur, hv, hb, hh, hn, hm, hs, ht⟩
  · cases h0
  · obtain ⟨rfl, rfl⟩ : g = g' ∧ cap = cap' := by injection hv with h1 h2 h3; injection h1 with h1; injection h1 with h1; exact ⟨h1, h3⟩
    refine ⟨by rw [List.length_take]; omega, .inr ⟨g, cap, cur, rfl, hb, hh, by omega, hm, hs, ?_⟩⟩
    rw [← ht, List.take_take]
    congr 1
    omega
theorem compact_lenC (zs : List (List UInt8)) : (compact zs).length ≤ zs.length := by
  unfold compact compactUpTo
  rw [List.length_map]
  exact Nat.le_trans (List.length_filter_le _ _) (by simp)
theorem sortS_own (base : Nat) (v : Value) (m : Nat) (zs : List (List UInt8)) (w : World) (h : w.ownsRow base 9 1 v m (zs.map encStr)) (hb : base ≤ w.heap.size) (hm : m ≤ 4000) :
    Calls Tryz.prog 91 #[v] w fun e w' => e = .returned (.tuple #[]) ∧ w'.ownsRow base 9 1 v m ((zs.mergeSort fun x y => decide (x ≤ y)).map encStr) ∧ Below base w w' ∧ KeepsOthers w w' := by
  have hl : zs.length = m := by have := h.1; simpa using this
  rcases h.2 with ⟨rfl, rfl⟩ | ⟨g, cap, cur, rfl, hg, hh, hn, hc, hs, ht⟩
  · have hz : zs = [] := List.eq_nil_of_length_eq_zero hl
    subst hz
    refine (Tryz.slices_Sort_string_none none 0 w).mono ?_
    rintro e w' ⟨rfl, rfl⟩
    exact ⟨rfl, by rw [List.mergeSort_nil]; exact World.ownsRow_nil _ _ _ _, Below.refl _ _, KeepsOthers.refl _⟩
  · subst hl
    rw [Nat.mul_one] at ht
    have hc1 := Tryz.slices_Sort_string g 0 cap zs w (holds_of_block hh ht) (Array.getElem?_eq_some_iff.1 hh).1 (by omega)
    refine hc1.mono ?_
    rintro e w' ⟨rfl, n, os, rfl⟩
    refine ⟨rfl, ownsRow_sorted (by simp) hg hh hn hc hs, ?_, keeps_row hh (grownBy_sorted _)⟩
    exact (Below.refl _ w).grown (grownBy_sorted _) hb (fun k hk => by cases hk; exact hg)
theorem compactS_own (base : Nat) (v : Value) (m : Nat) (zs : List (List UInt8)) (w : World) (h : w.ownsRow base 9 1 v m (zs.map encStr)) (hb : base ≤ w.heap.size) (hm : m ≤ 4000) :
    Calls Tryz.prog 92 #[v] w fun e w' => ∃ v', e = .returned v' ∧ w'.ownsRow base 9 1 v' (compact zs).length ((compact zs).map encStr) ∧ Below base w w' ∧ KeepsOthers w w' := by
  have hl : zs.length = m := by have := h.1; simpa using this
  rcases h.2 with ⟨rfl, rfl⟩ | ⟨g, cap, cur, rfl, hg, hh, hn, hc, hs, ht⟩
  · have hz : zs = [] := List.eq_nil_of_length_eq_zero hl
    subst hz
    refine (Tryz.slices_Compact_string_empty none 0 w).mono ?_
    rintro e w' ⟨rfl, rfl⟩
    exact ⟨_, rfl, World.ownsRow_nil _ _ _ _, Below.refl _ _, KeepsOthers.refl _⟩
  · subst hl
    rw [Nat.mul_one] at ht
    refine (Tryz.slices_Compact_string g 0 cap zs w (holds_of_block hh ht) (by omega) hn).mono ?_
    rintro e w' ⟨rfl, q, rfl⟩
    have hcl := compact_lenC zs
    have ho : (putRow encStr (Sort.ahead w q) g 0 (compact zs ++ List.replicate (zs.length - (compact zs).length) []).toArray).ownsRow base 9 1 (.slice (some ⟨g, 0, none⟩) zs.length cap) zs.length ((compact zs ++ List.replicate (zs.length - (compact zs).length) []).map encStr) := by
      have := ownsRow_sorted (n := q) (os := #[]) (ts := compact zs ++ List.replicate (zs.length - (compact zs).length) []) (ss := zs) (base := base) (by simp; omega) hg hh hn hc hs
      rw [grow_emptyC] at this
      exact this
    have ht2 := own_takeC ho (compact zs).length hcl
    have hgr : w.grownBy (putRow encStr (Sort.ahead w q) g 0 (compact zs ++ List.replicate (zs.length - (compact zs).length) []).toArray) (some g) := by
      have := grownBy_sorted (w := w) (g := g) (n := q) (os := #[]) (compact zs ++ List.replicate (zs.length - (compact zs).length) []).toArray
      rw [grow_emptyC] at this
      exact this
    refine ⟨_, rfl, ?_, (Below.refl _ w).grown hgr hb (fun k hk => by cases hk; exact hg), keeps_row hh hgr⟩
    rw [← List.map_take, List.take_left'] at ht2
    · exact ht2
    · rfl
end Go.Proofs.YtalejbabhjlehaaGreatDoor

/- A slice of numbers among the arguments: what a walk asks of it. -/
import Derived.Test.YtalnfbgaiegicaaCalA
import Derived.ChangeSlices
import Derived.WideShapes
namespace Go.Proofs.Ytalnfbgaiegicaa
open Go Go.ChangeShapes Go.WideShapes Go.RowKit

theorem hsA_of_cells {w : World} {a : Addr} {xs : List Int} (h : ∀ i, i < xs.length → w.cell? (a.add i) = some (.int .i64 (xs.getD i 0))) : HsA w (some a) xs := by
  rcases Nat.eq_zero_or_pos xs.length with h0 | h0
  · exact .inl (List.eq_nil_of_length_eq_zero h0)
  · have g0 := h 0 h0
    have e : a.add 0 = a := rfl
    rw [e] at g0
    have hspot : a.spot = none := by
      unfold World.cell? at g0
      split at g0
      · split at g0
        · cases g0
        · next g => simpa using g
      · cases g0
    have hb : a.block < w.heap.size := by
      unfold World.cell? at g0
      split at g0
      · next g => exact lt_of_block g
      · cases g0
    obtain ⟨b, o, sp⟩ := a
    simp only at hspot hb
    subst hspot
    refine .inr ⟨b, o, rfl, hb, fun j hj => ?_⟩
    rw [← h j hj]
    congr 1
    unfold Addr.add
    split
    · next g => rw [g]; rfl
    · rfl
theorem open_intsM {H : Type} {enc : TypeId × Value → H} {P : Program} {W : World} {t e : TypeId} {v : Value} {d : DataW H} {p : List MemPlace} (hu : P.underlying t = some (.slice e)) (he : P.underlying e = some (.int .i64)) (hc : P.cellsOf e = 1)
    {r : Reach} {b0 : Nat} (hv : Value.okWide P W r b0 t v) (h : DataW.Trod enc P W 0 (fun _ => true) true t v d p) :
    ∃ (A : Option Addr) (c : Nat) (xs : List Int), v = .slice A xs.length c ∧ HsA W A xs ∧ xs.length ≤ 9223372036854775807 := by
  obtain ⟨a0, len, cap, rfl⟩ := okWide_slice hu hv
  obtain ⟨fuel, hf⟩ := h
  rcases open_ints hu he hc hf with ⟨hcs, hx⟩ | ⟨a, len', cap', zs, hcs, _, hl, hm, hz, hx, hcell, _⟩
  · obtain ⟨rfl, rfl, rfl⟩ : a0 = none ∧ len = 0 ∧ cap = 0 := by simpa [Value.cells] using hcs
    exact ⟨none, 0, [], rfl, .inl rfl, by simp⟩
  · obtain ⟨rfl, rfl, rfl⟩ : a0 = some a ∧ len = len' ∧ cap = cap' := by simpa [Value.cells] using hcs
    have hz' : zs.length = cap := by simpa using hz
    have hlen : (zs.take len).length = len := by rw [List.length_take]; omega
    refine ⟨some a, cap, zs.take len, by rw [hlen], hsA_of_cells (fun i hi => ?_), by rw [hlen]; unfold maxLen at hm; omega⟩
    rw [hlen] at hi
    rw [hcell i (by omega)]
    congr 2
    rw [List.getD_eq_getElem?_getD, List.getD_eq_getElem?_getD, List.getElem?_take, if_pos hi]
end Go.Proofs.Ytalnfbgaiegicaa

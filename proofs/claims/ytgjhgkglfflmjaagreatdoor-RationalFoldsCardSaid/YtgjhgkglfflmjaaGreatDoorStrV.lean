/- A slice of strings among the arguments: what a walk asks of it. -/
import Derived.Test.YtgjhgkglfflmjaaGreatDoorIntA1
import Derived.SliceStrings
import Derived.SizedLaws
import Derived.Carry
import Derived.WideShapes
namespace Go.Proofs.YtgjhgkglfflmjaaGreatDoor
open Go Go.ChangeShapes Go.WideShapes Go.RowKit

theorem slA_of_cells {w : World} {a : Addr} {ss : List ByteArray} (h : ∀ i, i < ss.length → w.cell? (a.add i) = some (.string (ss.getD i ByteArray.empty))) : SlA Value.string w (some a) ss := by
  intro j x hj
  obtain ⟨hlt, he⟩ := List.getElem?_eq_some_iff.1 hj
  have h0 := h 0 (by omega)
  have hspot : a.spot = none := by
    have e : a.add 0 = a := rfl
    rw [e] at h0
    unfold World.cell? at h0
    split at h0
    · split at h0
      · cases h0
      · next g => simpa using g
    · cases h0
  have hb : a.block < w.heap.size := by
    have e : a.add 0 = a := rfl
    rw [e] at h0
    unfold World.cell? at h0
    split at h0
    · next g => exact lt_of_block g
    · cases h0
  have hx := h j hlt
  rw [List.getD_eq_getElem?_getD, hj, Option.getD_some] at hx
  obtain ⟨b, o, sp⟩ := a
  simp only at hspot hb
  subst hspot
  refine ⟨b, o, rfl, hb, ?_⟩
  rw [← hx]
  congr 1
  unfold Addr.add
  split
  · next g => rw [g]; rfl
  · rfl
theorem weights_strs {H : Type} {P : Program} {e : TypeId} {s : ByteArray} : ∀ (l : List ByteArray), s ∈ l → s.data.toList.length ∈ DataW.weightsAll (H := H) P e (strs l)
  | [], h => by simp at h
  | x :: r, h => by
    show _ ∈ DataW.weightsAll P e (.lit (.string x.data.toList) :: strs r)
    rw [DataW.weightsAll]
    rcases List.mem_cons.1 h with rfl | h
    · rw [List.mem_append]; left; rw [DataW.weights]; simp
    · rw [List.mem_append]; right; exact weights_strs r h
theorem open_strs {H : Type} {enc : TypeId × Value → H} {P : Program} {W : World} {t e : TypeId} {v : Value} {d : DataW H} {p : List MemPlace} {ts : List TypeId} {ds : List (DataW H)} (hu : P.underlying t = some (.slice e)) (he : P.underlying e = some .string) (hc : P.cellsOf e = 1)
    {r : Reach} {b0 : Nat} (hv : Value.okWide P W r b0 t v) (h : DataW.Trod enc P W 0 (fun _ => true) true t v d p) (hsz : (DataW.weightsEach P ts ds).all (· ≤ reachBytes) = true) {j : Nat} (hj : ts[j]? = some t) (hd : ds[j]? = some d) :
    ∃ (A : Option Addr) (c : Nat) (ss : List ByteArray), v = .slice A ss.length c ∧ SlA Value.string W A ss ∧ (A = none → c = 0) ∧ ss.length ≤ 9223372036854775807 ∧ (∀ s ∈ ss, s.size ≤ 140737488351232) := by
  obtain ⟨a0, len, cap, rfl⟩ := okWide_slice hu hv
  obtain ⟨fuel, hf⟩ := h
  rcases open_strings hu he hc hf with ⟨hcs, hx⟩ | ⟨a, len', cap', ss, hcs, _, hl, hm, hz, hx, hcell, _⟩
  · obtain ⟨rfl, rfl, rfl⟩ : a0 = none ∧ len = 0 ∧ cap = 0 := by simpa [Value.cells] using hcs
    exact ⟨none, 0, [], rfl, SlA.nil, fun _ => rfl, by simp, by simp⟩
  · obtain ⟨rfl, rfl, rfl⟩ : a0 = some a ∧ len = len' ∧ cap = cap' := by simpa [Value.cells] using hcs
    have hz' : ss.length = cap := by simpa using hz
    have hlen : (ss.take len).length = len := by rw [List.length_take]; omega
    refine ⟨some a, cap, ss.take len, by rw [hlen], slA_of_cells (fun i hi => ?_), (fun h => by cases h), by rw [hlen]; unfold maxLen at hm; omega, fun s hs => ?_⟩
    · rw [hlen] at hi
      rw [hcell i (by omega)]
      congr 2
      rw [List.getD_eq_getElem?_getD, List.getD_eq_getElem?_getD, List.getElem?_take, if_pos hi]
    · have hd2 : d = .slice (strs (ss.take len)) (strs (ss.drop len)) := congrArg Prod.fst hx
      rw [hd2] at hd
      have := List.all_eq_true.1 hsz _ (DataW.weights_mem_each hj hd s.data.toList.length (by
        rw [DataW.weights, hu]
        simp only [List.mem_cons, List.mem_append]
        exact .inr (.inl (weights_strs _ hs))))
      rw [Lib.size_eq]
      exact Nat.le_trans (of_decide_eq_true this) (by decide)
end Go.Proofs.YtgjhgkglfflmjaaGreatDoor

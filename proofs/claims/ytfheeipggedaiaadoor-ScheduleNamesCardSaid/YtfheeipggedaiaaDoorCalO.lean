/- A calendar among the arguments: what a walk asks of it. -/
import Derived.Test.YtfheeipggedaiaaDoorCalF
import Derived.Lib.SmallJoins
import Derived.ChangeSlices
import Derived.WideShapes
import Derived.Carry
import Derived.ProofKit
import Derived.OpenShut
namespace Go.Proofs.YtfheeipggedaiaaDoor
open Go Go.ChangeShapes Go.WideShapes Go.RowKit

theorem hsA_of {w : World} {a : Addr} {zs : List Int} (h : ∀ i, i < zs.length → w.cell? (a.add i) = some (.int .i64 (zs.getD i 0))) : HsA w (some a) zs := by
  by_cases hz : zs = []
  · exact .inl hz
  have hl : 0 < zs.length := List.length_pos_iff.2 hz
  have h0 := h 0 hl
  have e0 : a.add 0 = a := rfl
  rw [e0] at h0
  have hspot : a.spot = none := by
    unfold World.cell? at h0
    split at h0
    · split at h0
      · cases h0
      · next g => simpa using g
    · cases h0
  have hb : a.block < w.heap.size := by
    unfold World.cell? at h0
    split at h0
    · next g => exact lt_of_block g
    · cases h0
  obtain ⟨b, o, sp⟩ := a
  simp only at hspot hb
  subst hspot
  refine .inr ⟨b, o, rfl, hb, fun j hj => ?_⟩
  rw [← h j hj]
  congr 1
  unfold Addr.add
  split
  · next g => rw [g]; rfl
  · rfl

set_option maxRecDepth 100000 in
/-- A calendar among the arguments. -/
theorem open_cal {H : Type} {enc : TypeId × Value → H} {W : World} {v : Value} {d : DataW H} {p : List MemPlace} {r : Reach} {b0 : Nat} (hv : Value.okWide Tryd.prog W r b0 25 v)
    (h : DataW.Trod enc Tryd.prog W 0 (fun _ => true) true 25 v d p) :
    ∃ (we : Int) (A : Option Addr) (c : Nat) (hs : List Int), v = .agg #[.int .u8 we, .slice A hs.length c] ∧ CalIn W we A c hs := by
  obtain ⟨v0, v1, y0, y1, n, rfl, _, _, h0, h1⟩ := Go.Joins.open_agg2 Tryd.underlying25 (by kernel_rfl) (by kernel_rfl) hv h
  obtain ⟨we, hwe, _, wf⟩ := DataW.trod_int Tryd.underlying5 h0
  obtain rfl : v0 = .int .u8 we := by simpa using hwe
  obtain ⟨w0, w1⟩ : 0 ≤ we ∧ we ≤ 255 := bounds_u8 wf
  rcases open_ints Tryd.underlying23 Tryd.underlying3 (by kernel_rfl) h1 with ⟨hcs, _⟩ | ⟨a, len, cap, zs, hcs, _, hl, hm, hz, _, hcell, _⟩
  · obtain rfl : v1 = .slice none 0 0 := by simpa using hcs
    exact ⟨we, none, 0, [], rfl, w0, w1, .inl rfl, by simp, fun _ => rfl⟩
  · obtain rfl : v1 = .slice (some a) len cap := by simpa using hcs
    have hz' : zs.length = cap := by simpa using hz
    have hlen : (zs.take len).length = len := by rw [List.length_take]; omega
    refine ⟨we, some a, cap, zs.take len, by rw [hlen], w0, w1, hsA_of (fun i hi => ?_), by rw [hlen]; unfold maxLen at hm; omega, fun h => by cases h⟩
    rw [hlen] at hi
    rw [hcell i (by omega)]
    congr 2
    rw [List.getD_eq_getElem?_getD, List.getD_eq_getElem?_getD, List.getElem?_take, if_pos hi]

end Go.Proofs.YtfheeipggedaiaaDoor

/- A description among the arguments: what a walk asks of it. -/
import Derived.Test.YtfheeipggedaiaaDoorCalO
namespace Go.Proofs.YtfheeipggedaiaaDoor
open Go Go.Joins Go.ChangeShapes Go.WideShapes Go.RowKit

theorem arr9 {cs : Array Value} (h : cs.size = 9) : ∃ c0 c1 c2 c3 c4 c5 c6 c7 c8, cs = #[c0, c1, c2, c3, c4, c5, c6, c7, c8] := by
  obtain ⟨l⟩ := cs
  match l, h with
  | [c0, c1, c2, c3, c4, c5, c6, c7, c8], _ => exact ⟨c0, c1, c2, c3, c4, c5, c6, c7, c8, rfl⟩
set_option maxRecDepth 100000 in
/-- A description among the arguments. -/
theorem open_sch {H : Type} {enc : TypeId × Value → H} {W : World} {v : Value} {d : DataW H} {p : List MemPlace} {r : Reach} {b0 : Nat} (hv : Value.okWide Tryd.prog W r b0 27 v)
    (h : DataW.Trod enc Tryd.prog W 0 (fun _ => true) true 27 v d p) :
    ∃ (st en mo : Int) (bk la : Bool) (sb ro we : Int) (A : Option Addr) (c : Nat) (hs : List Int), v = .agg #[.int .i64 st, .int .i64 en, .int .i64 mo, .bool bk, .bool la, .int .u8 sb, .int .u8 ro, .int .u8 we, .slice A hs.length c] ∧ CalIn W we A c hs ∧
      (-9223372036854775808 ≤ st ∧ st ≤ 9223372036854775807) ∧ (-9223372036854775808 ≤ en ∧ en ≤ 9223372036854775807) ∧ (-9223372036854775808 ≤ mo ∧ mo ≤ 9223372036854775807) ∧ (0 ≤ sb ∧ sb ≤ 255) ∧ (0 ≤ ro ∧ ro ≤ 255) := by
  obtain ⟨cs, rfl, hsz⟩ := okWide_struct Tryd.underlying27 hv
  obtain ⟨c0, c1, c2, c3, c4, c5, c6, c7, c8, rfl⟩ := arr9 (hsz.trans (by kernel_rfl))
  obtain ⟨fuel, hf⟩ := h
  obtain ⟨xs, n, _, hx, _, hlen, hg⟩ := DataW.trod_struct Tryd.underlying27 hf
  have k3 : Tryd.prog.cellsOf 3 = 1 := by kernel_rfl
  have k4 : Tryd.prog.cellsOf 4 = 1 := by kernel_rfl
  have k5 : Tryd.prog.cellsOf 5 = 1 := by kernel_rfl
  have k25 : Tryd.prog.cellsOf 25 = 2 := by kernel_rfl
  have ks : Tryd.prog.cellsOf 23 = 1 := by kernel_rfl
  obtain ⟨y0, y1, y2, y3, y4, y5, y6, y7, rfl⟩ : ∃ y0 y1 y2 y3 y4 y5 y6 y7, xs = [y0, y1, y2, y3, y4, y5, y6, y7] := by
    match xs, hlen with
    | [y0, y1, y2, y3, y4, y5, y6, y7], _ => exact ⟨y0, y1, y2, y3, y4, y5, y6, y7, rfl⟩
  have g0 : DataW.trod enc Tryd.prog W 0 (fun _ => true) true n 3 [c0] = some y0 := by simpa [Value.cells, k3, k4, k5] using hg 0 _ rfl
  have g1 : DataW.trod enc Tryd.prog W 0 (fun _ => true) true n 3 [c1] = some y1 := by simpa [Value.cells, k3, k4, k5] using hg 1 _ rfl
  have g2 : DataW.trod enc Tryd.prog W 0 (fun _ => true) true n 3 [c2] = some y2 := by simpa [Value.cells, k3, k4, k5] using hg 2 _ rfl
  have g3 : DataW.trod enc Tryd.prog W 0 (fun _ => true) true n 4 [c3] = some y3 := by simpa [Value.cells, k3, k4, k5] using hg 3 _ rfl
  have g4 : DataW.trod enc Tryd.prog W 0 (fun _ => true) true n 4 [c4] = some y4 := by simpa [Value.cells, k3, k4, k5] using hg 4 _ rfl
  have g5 : DataW.trod enc Tryd.prog W 0 (fun _ => true) true n 5 [c5] = some y5 := by simpa [Value.cells, k3, k4, k5] using hg 5 _ rfl
  have g6 : DataW.trod enc Tryd.prog W 0 (fun _ => true) true n 5 [c6] = some y6 := by simpa [Value.cells, k3, k4, k5] using hg 6 _ rfl
  have g7 : DataW.trod enc Tryd.prog W 0 (fun _ => true) true n 25 [c7, c8] = some y7 := by simpa [Value.cells, k25] using hg 7 _ rfl
  clear hg hf hv
  obtain ⟨st, h0, -, w0⟩ := DataW.trod_int Tryd.underlying3 g0
  obtain rfl : c0 = .int .i64 st := by simpa using h0
  obtain ⟨en, h1, -, w1⟩ := DataW.trod_int Tryd.underlying3 g1
  obtain rfl : c1 = .int .i64 en := by simpa using h1
  obtain ⟨mo, h2, -, w2⟩ := DataW.trod_int Tryd.underlying3 g2
  obtain rfl : c2 = .int .i64 mo := by simpa using h2
  obtain ⟨bk, h3, -⟩ := DataW.trod_bool Tryd.underlying4 g3
  obtain rfl : c3 = .bool bk := by simpa using h3
  obtain ⟨la, h4, -⟩ := DataW.trod_bool Tryd.underlying4 g4
  obtain rfl : c4 = .bool la := by simpa using h4
  obtain ⟨sb, h5, -, w5⟩ := DataW.trod_int Tryd.underlying5 g5
  obtain rfl : c5 = .int .u8 sb := by simpa using h5
  obtain ⟨ro, h6, -, w6⟩ := DataW.trod_int Tryd.underlying5 g6
  obtain rfl : c6 = .int .u8 ro := by simpa using h6
  obtain ⟨z0, z1, n2, -, -, q0, q1⟩ := trod_struct2 Tryd.underlying25 g7
  have q0 : DataW.trod enc Tryd.prog W 0 (fun _ => true) true n2 5 [c7] = some z0 := by simpa [k5] using q0
  have q1 : DataW.trod enc Tryd.prog W 0 (fun _ => true) true n2 23 [c8] = some z1 := by simpa [ks] using q1
  obtain ⟨we, hwe, -, wf⟩ := DataW.trod_int Tryd.underlying5 q0
  obtain rfl : c7 = .int .u8 we := by simpa using hwe
  have b0 : -9223372036854775808 ≤ st ∧ st ≤ 9223372036854775807 := bounds_i64 w0
  have b1 : -9223372036854775808 ≤ en ∧ en ≤ 9223372036854775807 := bounds_i64 w1
  have b2 : -9223372036854775808 ≤ mo ∧ mo ≤ 9223372036854775807 := bounds_i64 w2
  have b5 : 0 ≤ sb ∧ sb ≤ 255 := bounds_u8 w5
  have b6 : 0 ≤ ro ∧ ro ≤ 255 := bounds_u8 w6
  obtain ⟨e0, e1⟩ : 0 ≤ we ∧ we ≤ 255 := bounds_u8 wf
  rcases open_ints Tryd.underlying23 Tryd.underlying3 (by kernel_rfl) q1 with ⟨hcs, _⟩ | ⟨a, len, cap, zs, hcs, _, hl, hm, hz, _, hcell, _⟩
  · obtain rfl : c8 = .slice none 0 0 := by simpa [ks] using hcs
    exact ⟨st, en, mo, bk, la, sb, ro, we, none, 0, [], rfl, ⟨e0, e1, .inl rfl, by simp, fun _ => rfl⟩, b0, b1, b2, b5, b6⟩
  · obtain rfl : c8 = .slice (some a) len cap := by simpa [ks] using hcs
    have hz' : zs.length = cap := by simpa using hz
    have hlen : (zs.take len).length = len := by rw [List.length_take]; omega
    refine ⟨st, en, mo, bk, la, sb, ro, we, some a, cap, zs.take len, by rw [hlen], ⟨e0, e1, hsA_of (fun i hi => ?_), by rw [hlen]; unfold maxLen at hm; omega, fun h => by cases h⟩, b0, b1, b2, b5, b6⟩
    rw [hlen] at hi
    rw [hcell i (by omega)]
    congr 2
    rw [List.getD_eq_getElem?_getD, List.getD_eq_getElem?_getD, List.getElem?_take, if_pos hi]
end Go.Proofs.YtfheeipggedaiaaDoor

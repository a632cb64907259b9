/- Layer 8: the law's own functions con, now, pair. -/
import Derived.Test.YtceooffedkalnaaGreatDoorPu25
import Derived.Test.YtceooffedkalnaaGreatDoorPu26
namespace Go.Proofs.YtceooffedkalnaaGreatDoor
open Go Go.RowKit Go.BigFrame
theorem sc5_row {w : World} {q : Nat} {a b c d e v1 v2 v3 v4 v5 : Value} {t : TypeId} (h : w.heap[q]? = some (.cells #[a, b, c, d, e] t (0, 0))) : (((((w.setCell ⟨q, 0, none⟩ v1).setCell ⟨q, 1, none⟩ v2).setCell ⟨q, 2, none⟩ v3).setCell ⟨q, 3, none⟩ v4).setCell ⟨q, 4, none⟩ v5).heap[q]? = some (.cells #[v1, v2, v3, v4, v5] t (0, 0)) := by
  simp [World.setCell, Array.getElem?_modify, h]
def VlR (v : Value) (w : World) (e : Ending) (w' : World) : Prop := e = .returned v ∧ Below w.heap.size w w'
def conT (r : ByteArray) : Ex := .mk 1 r ⟨#[]⟩ 0 none 0 []
def nowT (n : ByteArray) : Ex := .mk 3 ⟨#[]⟩ n 0 none 0 []
theorem conT_in (w : World) {r : ByteArray} (h : r.size ≤ 140737488351232) : (conT r).In w := by
  unfold conT
  rw [Ex.in_mk]
  exact ⟨⟨by show (0 : Int) ≤ 1; decide, by show (1 : Int) ≤ 255; decide, by show -9223372036854775808 ≤ (0 : Int); decide, by show (0 : Int) ≤ 9223372036854775807; decide, h, Nat.zero_le _, Nat.le_refl _, Nat.zero_le _, fun _ => rfl⟩, fun j hj => by simp at hj⟩
theorem nowT_in (w : World) {n : ByteArray} (h : n.size ≤ 140737488351232) : (nowT n).In w := by
  unfold nowT
  rw [Ex.in_mk]
  exact ⟨⟨by show (0 : Int) ≤ 3; decide, by show (3 : Int) ≤ 255; decide, by show -9223372036854775808 ≤ (0 : Int); decide, by show (0 : Int) ≤ 9223372036854775807; decide, Nat.zero_le _, h, Nat.le_refl _, Nat.zero_le _, fun _ => rfl⟩, fun j hj => by simp at hj⟩
set_option maxRecDepth 100000 in
theorem con_any8 (r : ByteArray) (w : World) : Calls Tryz.prog 11 #[.string r] w (VlR (conT r).val w) := by
  have HB := Lib.hid (belO w (.cells #[.int .u8 1, .string r, .string ⟨#[]⟩, .int .i64 0, .slice none 0 0] 26))
  go_enter Tryz.func11, Tryz.ntmps11
  go_wp2_with (fail)
  refine bodyPost_ret (results_cell_row rfl _ _ w.heap.size 26 _ (0, 0) _ rfl (heap_alloc_new w _) Tryz.underlying26 (by kernel_rfl) (by kernel_rfl)) rfl ?_
  exact ⟨rfl, HB.out⟩
set_option maxRecDepth 100000 in
theorem now_any8 (r : ByteArray) (w : World) : Calls Tryz.prog 16 #[.string r] w (VlR (nowT r).val w) := by
  have HB := Lib.hid (belO w (.cells #[.int .u8 3, .string ⟨#[]⟩, .string r, .int .i64 0, .slice none 0 0] 26))
  go_enter Tryz.func16, Tryz.ntmps16
  go_wp2_with (fail)
  refine bodyPost_ret (results_cell_row rfl _ _ w.heap.size 26 _ (0, 0) _ rfl (heap_alloc_new w _) Tryz.underlying26 (by kernel_rfl) (by kernel_rfl)) rfl ?_
  exact ⟨rfl, HB.out⟩
def pairT (k : Int) (b : Nat) (x y : Ex) : Ex := .mk k ⟨#[]⟩ ⟨#[]⟩ 0 (some ⟨b, 0, none⟩) 2 [x, y]
def PairR (k : Int) (x y : Ex) (w : World) (e : Ending) (w' : World) : Prop := ∃ b, e = .returned (pairT k b x y).val ∧ (pairT k b x y).In w' ∧ Below w.heap.size w w'
theorem pair_end (k : Int) (h0 : 0 ≤ k) (h1 : k ≤ 255) (x y : Ex) (w w3 : World) (t : TypeId) (hx : x.In w) (hy : y.In w) (hb : Below w.heap.size w w3) (hs : w3.heap.size = w.heap.size + 1 + 1 + 1) {v1 v2 v3 v4 v5 : Value} :
    PairR k x y w (.returned (pairT k w3.heap.size x y).val) ((((((w3.alloc (.cells #[.int .u8 x.k, .string x.r, .string x.n, .int .i64 x.d, .slice x.A x.sub.length x.c, .int .u8 y.k, .string y.r, .string y.n, .int .i64 y.d, .slice y.A y.sub.length y.c] t)).setCell ⟨w.heap.size + 1 + 1, 0, none⟩ v1).setCell ⟨w.heap.size + 1 + 1, 1, none⟩ v2).setCell ⟨w.heap.size + 1 + 1, 2, none⟩ v3).setCell ⟨w.heap.size + 1 + 1, 3, none⟩ v4).setCell ⟨w.heap.size + 1 + 1, 4, none⟩ v5) := by
  have hr := heap_alloc_new w3 (.cells #[.int .u8 x.k, .string x.r, .string x.n, .int .i64 x.d, .slice x.A x.sub.length x.c, .int .u8 y.k, .string y.r, .string y.n, .int .i64 y.d, .slice y.A y.sub.length y.c] t)
  have hb4 := btO hb (belO w3 (.cells #[.int .u8 x.k, .string x.r, .string x.n, .int .i64 x.d, .slice x.A x.sub.length x.c, .int .u8 y.k, .string y.r, .string y.n, .int .i64 y.d, .slice y.A y.sub.length y.c] t))
  generalize w3.alloc (.cells #[.int .u8 x.k, .string x.r, .string x.n, .int .i64 x.d, .slice x.A x.sub.length x.c, .int .u8 y.k, .string y.r, .string y.n, .int .i64 y.d, .slice y.A y.sub.length y.c] t) = w4 at *
  have hle : w.heap.size ≤ w.heap.size + 1 + 1 := by omega
  have hB := ((((hb4.setCell (p := ⟨w.heap.size + 1 + 1, 0, none⟩) hle v1).setCell (p := ⟨w.heap.size + 1 + 1, 1, none⟩) hle v2).setCell (p := ⟨w.heap.size + 1 + 1, 2, none⟩) hle v3).setCell (p := ⟨w.heap.size + 1 + 1, 3, none⟩) hle v4).setCell (p := ⟨w.heap.size + 1 + 1, 4, none⟩) hle v5
  have hR : (((((w4.setCell ⟨w.heap.size + 1 + 1, 0, none⟩ v1).setCell ⟨w.heap.size + 1 + 1, 1, none⟩ v2).setCell ⟨w.heap.size + 1 + 1, 2, none⟩ v3).setCell ⟨w.heap.size + 1 + 1, 3, none⟩ v4).setCell ⟨w.heap.size + 1 + 1, 4, none⟩ v5).heap[w3.heap.size]? = some (.cells #[.int .u8 x.k, .string x.r, .string x.n, .int .i64 x.d, .slice x.A x.sub.length x.c, .int .u8 y.k, .string y.r, .string y.n, .int .i64 y.d, .slice y.A y.sub.length y.c] t (0, 0)) := by
    have hne : w3.heap.size ≠ w.heap.size + 1 + 1 := by omega
    rw [Below.heap_setCell _ _ _ _ hne, Below.heap_setCell _ _ _ _ hne, Below.heap_setCell _ _ _ _ hne, Below.heap_setCell _ _ _ _ hne, Below.heap_setCell _ _ _ _ hne]
    exact hr
  generalize ((((w4.setCell ⟨w.heap.size + 1 + 1, 0, none⟩ v1).setCell ⟨w.heap.size + 1 + 1, 1, none⟩ v2).setCell ⟨w.heap.size + 1 + 1, 2, none⟩ v3).setCell ⟨w.heap.size + 1 + 1, 3, none⟩ v4).setCell ⟨w.heap.size + 1 + 1, 4, none⟩ v5 = W at *
  refine ⟨_, rfl, ?_, hB⟩
  unfold pairT
  rw [Ex.in_mk]
  refine ⟨⟨h0, h1, by show -9223372036854775808 ≤ (0 : Int); decide, by show (0 : Int) ≤ 9223372036854775807; decide, Nat.zero_le _, Nat.zero_le _, Nat.le_refl _, by show 2 ≤ 140737488351232; decide, fun h => by cases h⟩, fun j hj => ?_⟩
  have hj : j = 0 ∨ j = 1 := by simp at hj; omega
  rcases hj with rfl | rfl
  · refine ⟨⟨_, 0, rfl, lt_of_block hR, fun i v hv => ?_⟩, hx.below hB⟩
    have hi : i = 0 ∨ i = 1 ∨ i = 2 ∨ i = 3 ∨ i = 4 := by have := (List.getElem?_eq_some_iff.1 hv).1; unfold Ex.cel at this; simp at this; omega
    rcases hi with rfl | rfl | rfl | rfl | rfl <;> exact row_cell hR hv
  · refine ⟨⟨_, 0, rfl, lt_of_block hR, fun i v hv => ?_⟩, hy.below hB⟩
    have hi : i = 0 ∨ i = 1 ∨ i = 2 ∨ i = 3 ∨ i = 4 := by have := (List.getElem?_eq_some_iff.1 hv).1; unfold Ex.cel at this; simp at this; omega
    rcases hi with rfl | rfl | rfl | rfl | rfl <;> exact row_cell hR hv
set_option maxRecDepth 100000 in
set_option maxHeartbeats 3200000 in
theorem pair_any8 (k : Int) (h0 : 0 ≤ k) (h1 : k ≤ 255) (x y : Ex) (w : World) (hx : x.In w) (hy : y.In w) : Calls Tryz.prog 12 #[.int .u8 k, x.val, y.val] w (PairR k x y w) := by
  have hB1 := belO w (.cells #[.int .u8 x.k, .string x.r, .string x.n, .int .i64 x.d, .slice x.A x.sub.length x.c] 26)
  have r1 := heap_alloc_new w (.cells #[.int .u8 x.k, .string x.r, .string x.n, .int .i64 x.d, .slice x.A x.sub.length x.c] 26)
  obtain ⟨w1, hw1⟩ : ∃ w1, w.alloc (.cells #[.int .u8 x.k, .string x.r, .string x.n, .int .i64 x.d, .slice x.A x.sub.length x.c] 26) = w1 := ⟨_, rfl⟩
  rw [hw1] at hB1 r1
  have s1 : w1.heap.size = w.heap.size + 1 := by rw [← hw1, World.size_alloc]
  have hB2 := belO w1 (.cells #[.int .u8 y.k, .string y.r, .string y.n, .int .i64 y.d, .slice y.A y.sub.length y.c] 26)
  have r2 := heap_alloc_new w1 (.cells #[.int .u8 y.k, .string y.r, .string y.n, .int .i64 y.d, .slice y.A y.sub.length y.c] 26)
  obtain ⟨w2, hw2⟩ : ∃ w2, w1.alloc (.cells #[.int .u8 y.k, .string y.r, .string y.n, .int .i64 y.d, .slice y.A y.sub.length y.c] 26) = w2 := ⟨_, rfl⟩
  rw [hw2] at hB2 r2
  rw [s1] at r2
  have s2 : w2.heap.size = w1.heap.size + 1 := by rw [← hw2, World.size_alloc]
  have hB3 := belO w2 (.cells #[.int .u8 0, .string ⟨#[]⟩, .string ⟨#[]⟩, .int .i64 0, .slice none 0 0] 26)
  have r3 := heap_alloc_new w2 (.cells #[.int .u8 0, .string ⟨#[]⟩, .string ⟨#[]⟩, .int .i64 0, .slice none 0 0] 26)
  obtain ⟨w3, hw3⟩ : ∃ w3, w2.alloc (.cells #[.int .u8 0, .string ⟨#[]⟩, .string ⟨#[]⟩, .int .i64 0, .slice none 0 0] 26) = w3 := ⟨_, rfl⟩
  rw [hw3] at hB3 r3
  rw [s2, s1] at r3
  have g1 := (hB3.block _ (lt_of_block ((hB2.block _ (lt_of_block r1)).trans r1))).trans ((hB2.block _ (lt_of_block r1)).trans r1)
  have g2 := (hB3.block _ (lt_of_block r2)).trans r2
  have a0 := row_cell (j := 0) g1 rfl
  have a1 := row_cell (j := 1) g1 rfl
  have a2 := row_cell (j := 2) g1 rfl
  have a3 := row_cell (j := 3) g1 rfl
  have a4 := row_cell (j := 4) g1 rfl
  have b0 := row_cell (j := 0) g2 rfl
  have b1 := row_cell (j := 1) g2 rfl
  have b2 := row_cell (j := 2) g2 rfl
  have b3 := row_cell (j := 3) g2 rfl
  have b4 := row_cell (j := 4) g2 rfl
  have c0 := fun o : Obj => cellO (belO w3 o) (row_cell (j := 0) r3 rfl)
  have c1 := fun o : Obj => cellO (belO w3 o) (row_cell (j := 1) r3 rfl)
  have c2 := fun o : Obj => cellO (belO w3 o) (row_cell (j := 2) r3 rfl)
  have c3 := fun o : Obj => cellO (belO w3 o) (row_cell (j := 3) r3 rfl)
  have c4 := fun o : Obj => cellO (belO w3 o) (row_cell (j := 4) r3 rfl)
  have hr := fun o : Obj => ((belO w3 o).block _ (lt_of_block r3)).trans r3
  have f0 := fun o : Obj => row_frz (j := 0) (hr o)
  have f1 := fun o : Obj => row_frz (j := 1) (hr o)
  have f2 := fun o : Obj => row_frz (j := 2) (hr o)
  have f3 := fun o : Obj => row_frz (j := 3) (hr o)
  have f4 := fun o : Obj => row_frz (j := 4) (hr o)
  have HQ := Lib.hid hr
  have HB := Lib.hid (btO hB1 (btO hB2 hB3))
  have HR := Lib.hid r3
  have HX := Lib.hid hx
  have HY := Lib.hid hy
  have HS3 := Lib.hid (show w3.heap.size = w.heap.size + 1 + 1 + 1 by rw [← hw3, World.size_alloc, s2, s1])
  clear hB1 hB2 hB3 r1 r2 r3 g1 g2 hx hy hr
  show Calls Tryz.prog 12 #[.int .u8 k, .agg #[.int .u8 x.k, .string x.r, .string x.n, .int .i64 x.d, .slice x.A x.sub.length x.c], .agg #[.int .u8 y.k, .string y.r, .string y.n, .int .i64 y.d, .slice y.A y.sub.length y.c]] w _
  go_enter Tryz.func12, Tryz.ntmps12
  go_wp2_with (fail)
  refine bodyPost_ret (results_cell_row rfl _ _ (w.heap.size + 1 + 1) 26 _ (0, 0) _ rfl (sc5_row (HQ.out _)) Tryz.underlying26 (by kernel_rfl) (by kernel_rfl)) rfl ?_
  exact pair_end k h0 h1 x y w w3 _ HX.out HY.out HB.out HS3.out
end Go.Proofs.YtceooffedkalnaaGreatDoor

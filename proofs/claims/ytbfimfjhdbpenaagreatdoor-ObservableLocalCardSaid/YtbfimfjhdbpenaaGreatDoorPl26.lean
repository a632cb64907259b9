/- Joined: OeF, OeH, OeI, OeJ, OeK. -/
import Derived.Test.YtbfimfjhdbpenaaGreatDoorPl24
import Derived.Test.YtbfimfjhdbpenaaGreatDoorPl25
import Derived.Test.YtbfimfjhdbpenaaGreatDoorPl18
import Derived.Test.YtbfimfjhdbpenaaGreatDoorPl23
import Derived.Test.YtbfimfjhdbpenaaGreatDoorPl22
import Derived.Deep.RegionHeld3
import Derived.Deep.RegionLaw
/- Layer 8: the law's own functions con, now, pair. -/
namespace Go.Proofs.YtbfimfjhdbpenaaGreatDoor
open Go Go.RowKit Go.BigFrame
theorem sc5_row {w : World} {q : Nat} {a b c d e v1 v2 v3 v4 v5 : Value} {t : TypeId} (h : w.heap[q]? = some (.cells #[a, b, c, d, e] t (0, 0))) : (((((w.setCell ⟨q, 0, none⟩ v1).setCell ⟨q, 1, none⟩ v2).setCell ⟨q, 2, none⟩ v3).setCell ⟨q, 3, none⟩ v4).setCell ⟨q, 4, none⟩ v5).heap[q]? = some (.cells #[v1, v2, v3, v4, v5] t (0, 0)) := by
  simp [World.setCell, Array.getElem?_modify, h]
def VlR (v : Value) (w : World) (e : Ending) (w' : World) : Prop := e = .returned v ∧ Below w.heap.size w w'
def conT (r : ByteArray) : Ex := .mk 1 r ⟨#[]⟩ 0 none 0 []
def nowT (n : ByteArray) : Ex := .mk 3 ⟨#[]⟩ n 0 none 0 []
theorem conT_in (w : World) {r : ByteArray} (h : r.size ≤ 140737488351232) : (conT r).In w := by
  unfold conT
  rw [Ex.in_mk]
  exact ⟨⟨by show (0 : Int) ≤ 1; decide, by show (1 : Int) ≤ 255; decide, by show -9223372036854775808 ≤ (0 : Int); decide, by show (0 : Int) ≤ 9223372036854775807; decide, h, Nat.zero_le _, Nat.le_refl _, Nat.zero_le _, fun _ => rfl⟩, fun j hj => by simp at hj⟩
theorem nowT_in (w : World) {n : ByteArray} (h : n.size ≤ 140737488351232) : (nowT n).In w := by
  unfold nowT
  rw [Ex.in_mk]
  exact ⟨⟨by show (0 : Int) ≤ 3; decide, by show (3 : Int) ≤ 255; decide, by show -9223372036854775808 ≤ (0 : Int); decide, by show (0 : Int) ≤ 9223372036854775807; decide, Nat.zero_le _, h, Nat.le_refl _, Nat.zero_le _, fun _ => rfl⟩, fun j hj => by simp at hj⟩
set_option maxRecDepth 100000 in
theorem con_any8 (r : ByteArray) (w : World) : Calls Tryz.prog 11 #[.string r] w (VlR (conT r).val w) := by
  have HB := Lib.hid (belO w (.cells #[.int .u8 1, .string r, .string ⟨#[]⟩, .int .i64 0, .slice none 0 0] 26))
  go_enter Tryz.func11, Tryz.ntmps11
  go_wp2_with (fail)
  refine bodyPost_ret (results_cell_row rfl _ _ w.heap.size 26 _ (0, 0) _ rfl (heap_alloc_new w _) Tryz.underlying26 (by kernel_rfl) (by kernel_rfl)) rfl ?_
  exact ⟨rfl, HB.out⟩
set_option maxRecDepth 100000 in
theorem now_any8 (r : ByteArray) (w : World) : Calls Tryz.prog 16 #[.string r] w (VlR (nowT r).val w) := by
  have HB := Lib.hid (belO w (.cells #[.int .u8 3, .string ⟨#[]⟩, .string r, .int .i64 0, .slice none 0 0] 26))
  go_enter Tryz.func16, Tryz.ntmps16
  go_wp2_with (fail)
  refine bodyPost_ret (results_cell_row rfl _ _ w.heap.size 26 _ (0, 0) _ rfl (heap_alloc_new w _) Tryz.underlying26 (by kernel_rfl) (by kernel_rfl)) rfl ?_
  exact ⟨rfl, HB.out⟩
def pairT (k : Int) (b : Nat) (x y : Ex) : Ex := .mk k ⟨#[]⟩ ⟨#[]⟩ 0 (some ⟨b, 0, none⟩) 2 [x, y]
def PairR (k : Int) (x y : Ex) (w : World) (e : Ending) (w' : World) : Prop := ∃ b, e = .returned (pairT k b x y).val ∧ (pairT k b x y).In w' ∧ Below w.heap.size w w'
theorem pair_end (k : Int) (h0 : 0 ≤ k) (h1 : k ≤ 255) (x y : Ex) (w w3 : World) (t : TypeId) (hx : x.In w) (hy : y.In w) (hb : Below w.heap.size w w3) (hs : w3.heap.size = w.heap.size + 1 + 1 + 1) {v1 v2 v3 v4 v5 : Value} :
    PairR k x y w (.returned (pairT k w3.heap.size x y).val) ((((((w3.alloc (.cells #[.int .u8 x.k, .string x.r, .string x.n, .int .i64 x.d, .slice x.A x.sub.length x.c, .int .u8 y.k, .string y.r, .string y.n, .int .i64 y.d, .slice y.A y.sub.length y.c] t)).setCell ⟨w.heap.size + 1 + 1, 0, none⟩ v1).setCell ⟨w.heap.size + 1 + 1, 1, none⟩ v2).setCell ⟨w.heap.size + 1 + 1, 2, none⟩ v3).setCell ⟨w.heap.size + 1 + 1, 3, none⟩ v4).setCell ⟨w.heap.size + 1 + 1, 4, none⟩ v5) := by
  have hr := heap_alloc_new w3 (.cells #[.int .u8 x.k, .string x.r, .string x.n, .int .i64 x.d, .slice x.A x.sub.length x.c, .int .u8 y.k, .string y.r, .string y.n, .int .i64 y.d, .slice y.A y.sub.length y.c] t)
  have hb4 := btO hb (belO w3 (.cells #[.int .u8 x.k, .string x.r, .string x.n, .int .i64 x.d, .slice x.A x.sub.length x.c, .int .u8 y.k, .string y.r, .string y.n, .int .i64 y.d, .slice y.A y.sub.length y.c] t))
  generalize w3.alloc (.cells #[.int .u8 x.k, .string x.r, .string x.n, .int .i64 x.d, .slice x.A x.sub.length x.c, .int .u8 y.k, .string y.r, .string y.n, .int .i64 y.d, .slice y.A y.sub.length y.c] t) = w4 at *
  have hle : w.heap.size ≤ w.heap.size + 1 + 1 := by omega
  have hB := ((((hb4.setCell (p := ⟨w.heap.size + 1 + 1, 0, none⟩) hle v1).setCell (p := ⟨w.heap.size + 1 + 1, 1, none⟩) hle v2).setCell (p := ⟨w.heap.size + 1 + 1, 2, none⟩) hle v3).setCell (p := ⟨w.heap.size + 1 + 1, 3, none⟩) hle v4).setCell (p := ⟨w.heap.size + 1 + 1, 4, none⟩) hle v5
  have hR : (((((w4.setCell ⟨w.heap.size + 1 + 1, 0, none⟩ v1).setCell ⟨w.heap.size + 1 + 1, 1, none⟩ v2).setCell ⟨w.heap.size + 1 + 1, 2, none⟩ v3).setCell ⟨w.heap.size + 1 + 1, 3, none⟩ v4).setCell ⟨w.heap.size + 1 + 1, 4, none⟩ v5).heap[w3.heap.size]? = some (.cells #[.int .u8 x.k, .string x.r, .string x.n, .int .i64 x.d, .slice x.A x.sub.length x.c, .int .u8 y.k, .string y.r, .string y.n, .int .i64 y.d, .slice y.A y.sub.length y.c] t (0, 0)) := by
    have hne : w3.heap.size ≠ w.heap.size + 1 + 1 := by omega
    rw [Below.heap_setCell _ _ _ _ hne, Below.heap_setCell _ _ _ _ hne, Below.heap_setCell _ _ _ _ hne, Below.heap_setCell _ _ _ _ hne, Below.heap_setCell _ _ _ _ hne]
    exact hr
  generalize ((((w4.setCell ⟨w.heap.size + 1 + 1, 0, none⟩ v1).setCell ⟨w.heap.size + 1 + 1, 1, none⟩ v2).setCell ⟨w.heap.size + 1 + 1, 2, none⟩ v3).setCell ⟨w.heap.size + 1 + 1, 3, none⟩ v4).setCell ⟨w.heap.size + 1 + 1, 4, none⟩ v5 = W at *
  refine ⟨_, rfl, ?_, hB⟩
  unfold pairT
  rw [Ex.in_mk]
  refine ⟨⟨h0, h1, by show -9223372036854775808 ≤ (0 : Int); decide, by show (0 : Int) ≤ 9223372036854775807; decide, Nat.zero_le _, Nat.zero_le _, Nat.le_refl _, by show 2 ≤ 140737488351232; decide, fun h => by cases h⟩, fun j hj => ?_⟩
  have hj : j = 0 ∨ j = 1 := by simp at hj; omega
  rcases hj with rfl | rfl
  · refine ⟨⟨_, 0, rfl, lt_of_block hR, fun i v hv => ?_⟩, hx.below hB⟩
    have hi : i = 0 ∨ i = 1 ∨ i = 2 ∨ i = 3 ∨ i = 4 := by have := (List.getElem?_eq_some_iff.1 hv).1; unfold Ex.cel at this; simp at this; omega
    rcases hi with rfl | rfl | rfl | rfl | rfl <;> exact row_cell hR hv
  · refine ⟨⟨_, 0, rfl, lt_of_block hR, fun i v hv => ?_⟩, hy.below hB⟩
    have hi : i = 0 ∨ i = 1 ∨ i = 2 ∨ i = 3 ∨ i = 4 := by have := (List.getElem?_eq_some_iff.1 hv).1; unfold Ex.cel at this; simp at this; omega
    rcases hi with rfl | rfl | rfl | rfl | rfl <;> exact row_cell hR hv
set_option maxRecDepth 100000 in
set_option maxHeartbeats 3200000 in
theorem pair_any8 (k : Int) (h0 : 0 ≤ k) (h1 : k ≤ 255) (x y : Ex) (w : World) (hx : x.In w) (hy : y.In w) : Calls Tryz.prog 12 #[.int .u8 k, x.val, y.val] w (PairR k x y w) := by
  have hB1 := belO w (.cells #[.int .u8 x.k, .string x.r, .string x.n, .int .i64 x.d, .slice x.A x.sub.length x.c] 26)
  have r1 := heap_alloc_new w (.cells #[.int .u8 x.k, .string x.r, .string x.n, .int .i64 x.d, .slice x.A x.sub.length x.c] 26)
  obtain ⟨w1, hw1⟩ : ∃ w1, w.alloc (.cells #[.int .u8 x.k, .string x.r, .string x.n, .int .i64 x.d, .slice x.A x.sub.length x.c] 26) = w1 := ⟨_, rfl⟩
  rw [hw1] at hB1 r1
  have s1 : w1.heap.size = w.heap.size + 1 := by rw [← hw1, World.size_alloc]
  have hB2 := belO w1 (.cells #[.int .u8 y.k, .string y.r, .string y.n, .int .i64 y.d, .slice y.A y.sub.length y.c] 26)
  have r2 := heap_alloc_new w1 (.cells #[.int .u8 y.k, .string y.r, .string y.n, .int .i64 y.d, .slice y.A y.sub.length y.c] 26)
  obtain ⟨w2, hw2⟩ : ∃ w2, w1.alloc (.cells #[.int .u8 y.k, .string y.r, .string y.n, .int .i64 y.d, .slice y.A y.sub.length y.c] 26) = w2 := ⟨_, rfl⟩
  rw [hw2] at hB2 r2
  rw [s1] at r2
  have s2 : w2.heap.size = w1.heap.size + 1 := by rw [← hw2, World.size_alloc]
  have hB3 := belO w2 (.cells #[.int .u8 0, .string ⟨#[]⟩, .string ⟨#[]⟩, .int .i64 0, .slice none 0 0] 26)
  have r3 := heap_alloc_new w2 (.cells #[.int .u8 0, .string ⟨#[]⟩, .string ⟨#[]⟩, .int .i64 0, .slice none 0 0] 26)
  obtain ⟨w3, hw3⟩ : ∃ w3, w2.alloc (.cells #[.int .u8 0, .string ⟨#[]⟩, .string ⟨#[]⟩, .int .i64 0, .slice none 0 0] 26) = w3 := ⟨_, rfl⟩
  rw [hw3] at hB3 r3
  rw [s2, s1] at r3
  have g1 := (hB3.block _ (lt_of_block ((hB2.block _ (lt_of_block r1)).trans r1))).trans ((hB2.block _ (lt_of_block r1)).trans r1)
  have g2 := (hB3.block _ (lt_of_block r2)).trans r2
  have a0 := row_cell (j := 0) g1 rfl
  have a1 := row_cell (j := 1) g1 rfl
  have a2 := row_cell (j := 2) g1 rfl
  have a3 := row_cell (j := 3) g1 rfl
  have a4 := row_cell (j := 4) g1 rfl
  have b0 := row_cell (j := 0) g2 rfl
  have b1 := row_cell (j := 1) g2 rfl
  have b2 := row_cell (j := 2) g2 rfl
  have b3 := row_cell (j := 3) g2 rfl
  have b4 := row_cell (j := 4) g2 rfl
  have c0 := fun o : Obj => cellO (belO w3 o) (row_cell (j := 0) r3 rfl)
  have c1 := fun o : Obj => cellO (belO w3 o) (row_cell (j := 1) r3 rfl)
  have c2 := fun o : Obj => cellO (belO w3 o) (row_cell (j := 2) r3 rfl)
  have c3 := fun o : Obj => cellO (belO w3 o) (row_cell (j := 3) r3 rfl)
  have c4 := fun o : Obj => cellO (belO w3 o) (row_cell (j := 4) r3 rfl)
  have hr := fun o : Obj => ((belO w3 o).block _ (lt_of_block r3)).trans r3
  have f0 := fun o : Obj => row_frz (j := 0) (hr o)
  have f1 := fun o : Obj => row_frz (j := 1) (hr o)
  have f2 := fun o : Obj => row_frz (j := 2) (hr o)
  have f3 := fun o : Obj => row_frz (j := 3) (hr o)
  have f4 := fun o : Obj => row_frz (j := 4) (hr o)
  have HQ := Lib.hid hr
  have HB := Lib.hid (btO hB1 (btO hB2 hB3))
  have HR := Lib.hid r3
  have HX := Lib.hid hx
  have HY := Lib.hid hy
  have HS3 := Lib.hid (show w3.heap.size = w.heap.size + 1 + 1 + 1 by rw [← hw3, World.size_alloc, s2, s1])
  clear hB1 hB2 hB3 r1 r2 r3 g1 g2 hx hy hr
  show Calls Tryz.prog 12 #[.int .u8 k, .agg #[.int .u8 x.k, .string x.r, .string x.n, .int .i64 x.d, .slice x.A x.sub.length x.c], .agg #[.int .u8 y.k, .string y.r, .string y.n, .int .i64 y.d, .slice y.A y.sub.length y.c]] w _
  go_enter Tryz.func12, Tryz.ntmps12
  go_wp2_with (fail)
  refine bodyPost_ret (results_cell_row rfl _ _ (w.heap.size + 1 + 1) 26 _ (0, 0) _ rfl (sc5_row (HQ.out _)) Tryz.underlying26 (by kernel_rfl) (by kernel_rfl)) rfl ?_
  exact pair_end k h0 h1 x y w w3 _ HX.out HY.out HB.out HS3.out
end Go.Proofs.YtbfimfjhdbpenaaGreatDoor
/- Layer 8: values of what is put together (plain). -/
namespace Go.Proofs.YtbfimfjhdbpenaaGreatDoor
open Go
theorem isB_iff (t : Ex) (x : Int) (hx : x = 1 ∨ x = 2) : t.isB x = true ↔ t.chk = 0 ∧ t.srt = x := by
  unfold Ex.isB
  rw [decide_eq_true_iff]
section
variable {x y z : Ex} {day : Int} {fs : List Fx} {cs : List Cx}
theorem isB_k {t : Ex} {s : Int} (hs : s = 1 ∨ s = 2) (h : t.isB s = true) : t.chk = 0 ∧ srtB t.k = s ∧ t.srt = s := by
  obtain ⟨h1, h2⟩ := (isB_iff t s hs).1 h
  exact ⟨h1, by rw [← Ex.srt_k h1]; exact h2, h2⟩
end
end Go.Proofs.YtbfimfjhdbpenaaGreatDoor
/- Layer 8: the law's own function mentions; what is not mentioned does not matter (plain). -/
namespace Go.Proofs.YtbfimfjhdbpenaaGreatDoor
open Go Go.RowKit Go.BigFrame
def menF (m : ByteArray) (_ : Int) (_ n : ByteArray) (_ : Int) (l : List Bool) : Bool := decide (n = m) || l.any id
def Ex.men (m : ByteArray) (t : Ex) : Bool := Ex.fold (menF m) t
theorem Ex.men_mk (m : ByteArray) (k : Int) (r n : ByteArray) (d : Int) (A : Option Addr) (c : Nat) (s : List Ex) : Ex.men m (.mk k r n d A c s) = (decide (n = m) || (s.map (Ex.men m)).any id) := by unfold Ex.men; rw [Ex.fold_mk]; rfl
theorem any_drop (f : Ex → Bool) (s : List Ex) (k : Nat) (h : k < s.length) : ((s.drop k).map f).any id = (f s[k] || ((s.drop (k + 1)).map f).any id) := by
  rw [List.drop_eq_getElem_cons h]; rfl
set_option maxRecDepth 100000 in
set_option maxHeartbeats 3200000 in
theorem mentions_any (m : ByteArray) (T : Ex) : ∀ (w : World), T.In w → Calls Tryz.prog 44 #[T.val, .string m] w (BoolRO (T.men m) w) := by
  induction T using Ex.ind with
  | h kk rr nn dd A c s ih =>
  intro w hin
  have HB1 := Lib.hid (belO w (.cells #[.int .u8 kk, .string rr, .string nn, .int .i64 dd, .slice A s.length c] 26))
  have HI := Lib.hid (hin.below HB1.out)
  have HC : Hid (Ex.Box (w.alloc (.cells #[.int .u8 kk, .string rr, .string nn, .int .i64 dd, .slice A s.length c] 26)) w.heap.size (.mk kk rr nn dd A c s)) := Ex.Box.new w (.mk kk rr nn dd A c s) 26
  have IH := Lib.hid ih
  have hbd := hin.bd
  obtain ⟨-, -, -, -, -, -, hl1, hc1, -⟩ := hbd
  have hl63 : s.length ≤ 9223372036854775807 := by have : s.length ≤ 140737488351232 := hc1; omega
  have c2 : (w.alloc (.cells #[.int .u8 kk, .string rr, .string nn, .int .i64 dd, .slice A s.length c] 26)).cell? ⟨w.heap.size, 2, none⟩ = some (.string nn) := HC.out.c2
  have c4 : (w.alloc (.cells #[.int .u8 kk, .string rr, .string nn, .int .i64 dd, .slice A s.length c] 26)).cell? ⟨w.heap.size, 4, none⟩ = some (.slice A s.length c) := HC.out.c4
  show Calls Tryz.prog 44 #[.agg #[.int .u8 kk, .string rr, .string nn, .int .i64 dd, .slice A s.length c], .string m] w _
  rw [Ex.men_mk]
  clear hin ih hl1 hc1
  rcases str_cases nn m with rfl | hne
  · rw [show (decide (nn = nn) || (s.map (Ex.men nn)).any id) = true by simp]
    go_enter Tryz.func44, Tryz.ntmps44
    go_wp2_with (fail)
    go_ret
    exact ⟨rfl, HB1.out⟩
  · rw [show (decide (nn = m) || (s.map (Ex.men m)).any id) = (s.map (Ex.men m)).any id by rw [decide_eq_false (str_ne hne)]; rfl]
    obtain ⟨Y, hY⟩ : ∃ Y, (s.map (Ex.men m)).any id = Y := ⟨_, rfl⟩
    have HY := Lib.hid hY
    rw [hY]
    clear hY
    go_enter Tryz.func44, Tryz.ntmps44
    go_wp2_with (fail)
    clear c2 c4
    generalize w.alloc (.cells #[.int .u8 kk, .string rr, .string nn, .int .i64 dd, .slice A s.length c] 26) = w1 at *
    go_loopw [5] (fun i wr => ∃ (k : Nat), k ≤ s.length ∧ i = .int .i64 k ∧ Hid (((s.drop k).map (Ex.men m)).any id = Y) ∧ Hid (Below w1.heap.size w1 wr)) (fun i _ => s.length - (intOf i).toNat)
    case atStart => exact ⟨0, by omega, rfl, HY.out, Below.refl _ _⟩
    case round =>
      obtain ⟨k, hk, rfl, HR, HW⟩ := hrel
      have b4 : wr.cell? ⟨w.heap.size, 4, none⟩ = some (.slice A s.length c) := (HC.out.below HW.out).c4
      by_cases hlt : k < s.length
      · have HIW := Lib.hid (HI.out.below HW.out)
        obtain ⟨b, o, rfl, -, hpi, d0, d1, d2, d3, d4⟩ := HIW.out.part hlt
        have hm : s[k] ∈ s := List.getElem_mem hlt
        have HQ := Lib.hid (IH.out s[k] hm _ hpi)
        have hs := any_drop (Ex.men m) s k hlt
        have HR2 := Lib.hid (hs.symm.trans HR.out)
        generalize s[k] = t at *
        clear hpi hm HI IH hs HR
        cases hb : t.men m
        · have HR3 : Hid (((s.drop (k + 1)).map (Ex.men m)).any id = Y) := by have := HR2.out; rw [hb, Bool.false_or] at this; exact this
          rw [hb] at HQ
          clear HR2 hb
          go_wp2_with (go_at_call 44; ((with_reducible refine HQ.out.mono ?_); rintro x w2 ⟨rfl, hb⟩; have HW2 := Lib.hid (btO HW.out hb); clear hb))
          go_roundw
          case rel => exact ⟨k + 1, by omega, by go_num, HR3, HW2⟩
          case measure => simp [intOf]; omega
        · obtain rfl : true = Y := by have := HR2.out; rw [hb, Bool.true_or] at this; exact this
          rw [hb] at HQ
          clear HR2 hb
          go_wp2_with (go_at_call 44; ((with_reducible refine HQ.out.mono ?_); rintro x w2 ⟨rfl, hb⟩; have HW2 := Lib.hid (btO HW.out hb); clear hb))
          go_ret
          exact ⟨rfl, btO HB1.out HW2.out⟩
      · obtain rfl : k = s.length := by omega
        obtain rfl : false = Y := by have := HR.out; rw [List.drop_length] at this; exact this
        clear HR HY
        go_wp2_with (fail)
        go_ret
        exact ⟨rfl, btO HB1.out HW.out⟩
theorem lkN_other {fs : List Fx} (h : Inc Fx.key fs) (f : Fx) (n : ByteArray) (d : Int) (hne : n ≠ f.1) : lkN (insL Fx.key f fs) n d = lkN fs n d := by
  obtain ⟨h1, h2⟩ := fnd_other h f n d (fun e => hne e.1.symm)
  unfold lkN
  rw [h1, h2]
theorem Ex.ev_other {fs : List Fx} (h : Inc Fx.key fs) (f : Fx) (day : Int) (t : Ex) (hm : t.men f.1 = false) : t.ev (insL Fx.key f fs) day = t.ev fs day := by
  induction t using Ex.ind with
  | h k r n d A c s ih =>
  rw [Ex.men_mk, Bool.or_eq_false_iff, decide_eq_false_iff_not] at hm
  have hs : s.map (Ex.ev (insL Fx.key f fs) day) = s.map (Ex.ev fs day) := List.map_congr_left fun t ht => ih t ht (by
    have := hm.2
    rw [List.any_eq_false] at this
    simpa using this (t.men f.1) (List.mem_map_of_mem ht))
  rw [Ex.ev_mk, Ex.ev_mk, hs]
  unfold evN
  rw [lkN_other h f n d hm.1, lkN_other h f n day hm.1]
end Go.Proofs.YtbfimfjhdbpenaaGreatDoor
/- Layer 8: a list of trees laid in an expression's box, one part at a time. -/
namespace Go.Proofs.YtbfimfjhdbpenaaGreatDoor
open Go Go.RowKit Go.BigFrame
theorem run_append_ownT {P : Program} (w : World) (base : Nat) (t ty e : TypeId) (i : TypeInfo) (z : Value) (size bytes : Nat) (ht : P.underlying t = some (.slice e)) (hi : P.info? e = some i) (hz : i.zero = some z)
    (hsize : i.size = size) (hby : i.bytes = bytes) (hzs : z.cells.size = size) (hsz : 0 < size)
    (v : Value) (n : Nat) (xs : List Value) (hown : w.ownsRow base e size v n xs)
    (a : Addr) (m c : Nat) (news : List Value) (hl : news.length = m * size) (hnews : ∀ j u, news[j]? = some u → w.cell? (a.add j) = some u) (h1 : ∀ u ∈ news, u.oneCell' = true) (hm : 0 < m)
    (h63 : n + m ≤ maxLen) (hbytes : (n + m) * bytes ≤ 140737488355328) (hbase : base ≤ w.heap.size) :
    ∃ v' w', (Builtin.append_ #[t, t] ty #[v, .slice (some a) m c]).run P w = .ok v' w' ∧ w'.ownsRow base e size v' (n + m) (xs ++ news) ∧ w.grownBy w' v.ownBlock ∧ (v'.ownBlock = v.ownBlock ∨ v'.ownBlock = some w.heap.size) := by
  obtain ⟨v', w', hr, h2, h3, -⟩ := run_append_own (P := P) w base t ty e i z size bytes ht hi hz hsize hby hzs hsz v n xs hown a m c news hl hnews h1 h63 hbytes hbase
  refine ⟨v', w', hr, h2, h3, ?_⟩
  subst hsize
  subst hby
  have hm63 : n + m ≤ 9223372036854775807 := by simp only [maxLen] at h63; omega
  rcases hown.2 with ⟨rfl, rfl⟩ | ⟨g, cap, cur, rfl, hbg, hg, hnc, hcm, hcs, htake⟩
  · have hr2 := run_append_nil (P := P) w t ty e i z ht hi hz a m c news hl hnews (by omega) (by omega) (by have hb := hbytes; simp only [Nat.zero_add] at hb; omega)
    rw [hr] at hr2
    injection hr2 with e1 e2
    rw [e1]; exact .inr rfl
  · by_cases hroom : n + m ≤ cap
    · have hfit : n * i.size + news.length ≤ cur.size := by rw [hl, hcs, ← Nat.add_mul]; exact Nat.mul_le_mul_right _ hroom
      have hr2 := run_append_room (P := P) w t ty e i ht hi g n cap cur hg a m c news hl hnews h1 hroom hfit
      rw [hr] at hr2
      injection hr2 with e1 e2
      rw [e1]; exact .inl rfl
    · have holds : ∀ j u, xs[j]? = some u → w.cell? ((⟨g, 0, none⟩ : Addr).add j) = some u := hown.cells (g := g) rfl
      have hr2 := run_append_grow (P := P) w t ty e i z ht hi hz ⟨g, 0, none⟩ n cap xs hown.1 holds a m c news hl hnews (by omega) (by omega) (growslice_fits (by omega) hbytes)
      rw [hr] at hr2
      injection hr2 with e1 e2
      rw [e1]; exact .inr rfl
theorem sc5_rowT {w : World} {q : Nat} {a b c d e v1 v2 v3 v4 v5 : Value} {t : TypeId} (h : w.heap[q]? = some (.cells #[a, b, c, d, e] t (0, 0))) : (((((w.setCell ⟨q, 0, none⟩ v1).setCell ⟨q, 1, none⟩ v2).setCell ⟨q, 2, none⟩ v3).setCell ⟨q, 3, none⟩ v4).setCell ⟨q, 4, none⟩ v5).heap[q]? = some (.cells #[v1, v2, v3, v4, v5] t (0, 0)) := by
  simp [World.setCell, Array.getElem?_modify, h]
theorem infoEx : (Tryz.prog.info? 26).map (fun i => (i.zero, i.size, i.bytes)) = some (some (.agg #[.int .u8 0, .string ⟨#[]⟩, .string ⟨#[]⟩, .int .i64 0, .slice none 0 0]), 5, 72) := by kernel_rfl
theorem celO_len (t : Ex) : t.cel.length = 5 := rfl
theorem celO_one (t : Ex) : ∀ u ∈ t.cel, u.oneCell' = true := by
  intro u hu
  unfold Ex.cel at hu
  simp only [List.mem_cons, List.not_mem_nil, or_false] at hu
  rcases hu with rfl | rfl | rfl | rfl | rfl <;> rfl
theorem step_appT {P : Program} {ops : Array Oper} {o : Oper} {a : Act} {w : World} {K : Act → World → Prop} {Q : Exit → Act → World → Prop} {E : Prop} {base : Nat} {e : TypeId} {v : Value} {n : Nat} {xs : List Value} (hown : w.ownsRow base e 5 v n xs) (T : Ex)
    (hg : o.guard = none) (s y : Operand) (t : TypeId) (hop : o.op = Op.call { callee := Callee.builtin Builtin.append, args := #[s, y], argTypes := #[t, t] })
    (i : TypeInfo) (z : Value) (ht : P.underlying t = some (.slice e)) (hi : P.info? e = some i) (hz : i.zero = some z) (hsize : i.size = 5) (hby : i.bytes = 72) (hzs : z.cells.size = 5)
    (hs : a.eval s = v) (hx : a.eval y = .slice (some ⟨w.heap.size, 0, none⟩) 1 1) (hn : n ≤ 1000000) (hbase : base ≤ w.heap.size)
    (hK : ∀ v' w', w'.ownsRow base e 5 v' (n + 1) (xs ++ T.cel) → (w.alloc (.cells T.cel.toArray e)).grownBy w' v.ownBlock → (v'.ownBlock = v.ownBlock ∨ v'.ownBlock = some (w.alloc (.cells T.cel.toArray e)).heap.size) → K (a.put o.dst v') w') :
    if Region.wanted o (yielded ops a.tmps) = true then Oper.wp P o a (w.alloc (.cells T.cel.toArray e)) K Q else E := by
  have hw : Region.wanted o (yielded ops a.tmps) = true := by simp [Region.wanted, hg]
  rw [if_pos hw]
  obtain ⟨v', w', hr, h2, h3, h4⟩ := run_append_ownT (P := P) (w.alloc (.cells T.cel.toArray e)) base t o.type e i z 5 72 ht hi hz hsize hby hzs (by decide) v n xs (hown.alloc _) ⟨w.heap.size, 0, none⟩ 1 1 T.cel (by rfl) (fun j u hj => by
    rw [add_off]
    exact row_cell (heap_alloc_new w _) (by rw [Nat.zero_add, List.getElem?_toArray]; exact hj)) (celO_one T) (by omega) (by unfold maxLen; omega) (by omega) (by simp; omega)
  unfold Oper.wp
  simp [execOp, hop, resolve, invoke, builtin, hs, hx, hr, Result.andThen]
  exact hK _ _ h2 h3 h4
theorem own_setT {w : World} {base : Nat} {e : TypeId} {size : Nat} {v : Value} {n : Nat} {xs : List Value} (h : w.ownsRow base e size v n xs) {p : Addr} (hp : p.block < base) (u : Value) : (w.setCell p u).ownsRow base e size v n xs := by
  refine ⟨h.1, ?_⟩
  rcases h.2 with h0 | ⟨g, cap, cur, hv, hg, hh, r⟩
  · exact .inl h0
  · exact .inr ⟨g, cap, cur, hv, hg, (Below.heap_setCell w p u g (by omega)).trans hh, r⟩
structure TwL (wq : World) (v0 v1 v2 v3 : Value) (wr : World) (sv : Value) (m : Nat) (Ts : List Ex) : Prop where
  B : Below wq.heap.size wq wr
  o : wr.heap[wq.heap.size]? = some (.cells #[v0, v1, v2, v3, sv] 26 (0, 0))
  own : wr.ownsRow (wq.heap.size + 1) 26 5 sv m (rowsV Ex.cel Ts)
  len : Ts.length = m
  ts : ∀ T ∈ Ts, T.In wr ∧ T.Fr (wq.heap.size + 1) ∧ ∀ g, sv.ownBlock = some g → T.Av g
section
variable {wq : World} {v0 v1 v2 v3 : Value} {wr wr' wy w' : World} {sv sv' : Value} {m : Nat} {Ts : List Ex}
theorem TwL.to (h : TwL wq v0 v1 v2 v3 wr sv m Ts) (hb : Below wr.heap.size wr wr') : TwL wq v0 v1 v2 v3 wr' sv m Ts :=
  ⟨h.B.trans (hb.mono (Nat.le_of_lt (lt_of_block h.o))), (hb.block _ (lt_of_block h.o)).trans h.o, own_belO h.own hb, h.len, fun T hT => ⟨(h.ts T hT).1.below hb, (h.ts T hT).2⟩⟩
theorem TwL.start (wq : World) (v0 v1 v2 v3 : Value) : TwL wq v0 v1 v2 v3 (wq.alloc (.cells #[v0, v1, v2, v3, .slice none 0 0] 26)) (.slice none 0 0) 0 [] :=
  ⟨belO _ _, heap_alloc_new wq _, World.ownsRow_nil _ _ _ _, rfl, fun T hT => by simp at hT⟩
theorem TwL.app (h : TwL wq v0 v1 v2 v3 wr sv m Ts) (hby : Below wr.heap.size wr wy) {T : Ex} (hT : T.In wy) (hF : T.Fr wr.heap.size) {o : Obj} (hg : (wy.alloc o).grownBy w' sv.ownBlock)
    (hown : w'.ownsRow (wq.heap.size + 1) 26 5 sv' (m + 1) (rowsV Ex.cel Ts ++ T.cel)) (hn : sv'.ownBlock = sv.ownBlock ∨ sv'.ownBlock = some (wy.alloc o).heap.size) :
    TwL wq v0 v1 v2 v3 (w'.setCell ⟨wq.heap.size, 4, none⟩ sv') sv' (m + 1) (Ts ++ [T]) ∧ w'.heap[wq.heap.size]? = some (.cells #[v0, v1, v2, v3, sv] 26 (0, 0)) ∧ Below wq.heap.size wq w' := by
  have h7 : wq.heap.size < wr.heap.size := lt_of_block h.o
  have hlt := h.own.lt
  have hsz : wy.heap.size < (wy.alloc o).heap.size := by rw [World.size_alloc]; omega
  have hy := hby.size
  have hblk : ∀ k, k ≤ wq.heap.size → w'.heap[k]? = wr.heap[k]? := fun k hk => by
    rw [hg.block k (by omega) (fun e => by have := hlt k e.symm; omega)]
    exact ((belO wy o).block k (by omega)).trans (hby.block k (by omega))
  have h2 : w'.heap[wq.heap.size]? = some (.cells #[v0, v1, v2, v3, sv] 26 (0, 0)) := (hblk _ (Nat.le_refl _)).trans h.o
  have h1 : Below wq.heap.size wq (wy.alloc o) := (h.B.trans (hby.mono (by omega))).trans ((belO wy o).mono (by omega))
  have h5 : Below wq.heap.size wq w' := h1.grown hg (Nat.le_trans h.B.size (Nat.le_trans hy (Nat.le_of_lt hsz))) (fun k hk => by have := hlt k hk; omega)
  refine ⟨⟨?_, ?_, ?_, ?_, ?_⟩, h2, h5⟩
  · exact h5.setCell (p := ⟨wq.heap.size, 4, none⟩) (Nat.le_refl _) _
  · exact heap_setCell_same w' wq.heap.size 4 _ _ _ h2
  · rw [rowsV_snoc]
    exact own_setT hown (Nat.lt_succ_self _) _
  · rw [List.length_append, h.len]; rfl
  · intro T0 hT0
    have key : T0.In wy ∧ T0.Fr (wq.heap.size + 1) ∧ (∀ g, sv.ownBlock = some g → T0.Av g) ∧ T0.Av (wy.alloc o).heap.size := by
      rcases List.mem_append.1 hT0 with hm | hm
      · obtain ⟨a1, a2, a3⟩ := h.ts T0 hm
        exact ⟨a1.below hby, a2, a3, (a1.below hby).av (Nat.le_of_lt hsz)⟩
      · obtain rfl := List.mem_singleton.1 hm
        exact ⟨hT, hF.mono (by omega), fun g hg => hF.av (hlt g hg).2, hT.av (Nat.le_of_lt hsz)⟩
    obtain ⟨k1, k2, k3, k4⟩ := key
    refine ⟨Ex.In.set _ _ (Ex.In.grown hg (k1.below (belO wy o)) k3) (k2.av (Nat.lt_succ_self _)), k2, fun g hg' => ?_⟩
    rcases hn with e | e
    · exact k3 g (by rw [← e]; exact hg')
    · rw [e] at hg'
      injection hg' with hg'
      rw [← hg']; exact k4
theorem TwL.tree (h : TwL wq v0 v1 v2 v3 wr sv m Ts) (k : Int) (r n : ByteArray) (d : Int) (h0 : 0 ≤ k) (h1 : k ≤ 255) (hr : r.size ≤ 140737488351232) (hn : n.size ≤ 140737488351232) (d0 : -9223372036854775808 ≤ d) (d1 : d ≤ 9223372036854775807) (hm : m ≤ 1000000) :
    ∃ A c, sv = .slice A m c ∧ m = Ts.length ∧ (Ex.mk k r n d A c Ts).In wr ∧ (Ex.mk k r n d A c Ts).Fr (wq.heap.size + 1) := by
  obtain ⟨A, c, hv, hl, rd, nn, hb, hc, hm2⟩ := RowsR.of_own celO_len (by decide) h.own
  refine ⟨A, c, hv, hl, ?_, ?_⟩
  · rw [Ex.in_mk]
    exact ⟨⟨h0, h1, d0, d1, hr, hn, by show Ts.length ≤ c; omega, by show Ts.length ≤ 140737488351232; omega, nn⟩, fun j hj => ⟨rd j hj, (h.ts _ (List.getElem_mem hj)).1⟩⟩
  · rw [Ex.fr_mk]
    exact ⟨fun _ b o e => (hb b o e).1, fun t ht => (h.ts t ht).2.1⟩
end
end Go.Proofs.YtbfimfjhdbpenaaGreatDoor
/- Layer 8: the law's own function fixed. -/
namespace Go.Proofs.YtbfimfjhdbpenaaGreatDoor
open Go Go.RowKit Go.BigFrame
def fxF (day : Int) (k : Int) (r n : ByteArray) (d : Int) (l : List Ex) : Ex := .mk (if k = 3 then 2 else k) r n (if k = 3 then day else d) none 0 l
def Ex.fx (day : Int) (t : Ex) : Ex := Ex.fold (fxF day) t
theorem Ex.fx_mk (day k : Int) (r n : ByteArray) (d : Int) (A : Option Addr) (c : Nat) (s : List Ex) : Ex.fx day (.mk k r n d A c s) = .mk (if k = 3 then 2 else k) r n (if k = 3 then day else d) none 0 (s.map (Ex.fx day)) := by unfold Ex.fx; rw [Ex.fold_mk]; rfl
def FixR (day : Int) (T : Ex) (w : World) (e : Ending) (w' : World) : Prop := ∃ T' : Ex, e = .returned T'.val ∧ T'.In w' ∧ T'.er = T.fx day ∧ T'.Fr w.heap.size ∧ Below w.heap.size w w'
section
variable {wq : World} {v0 v1 v2 v3 : Value} {wr : World} {sv : Value} {m : Nat} {Ts : List Ex}
theorem TwL.cells (h : TwL wq v0 v1 v2 v3 wr sv m Ts) : wr.cell? ⟨wq.heap.size, 0, none⟩ = some v0 ∧ wr.cell? ⟨wq.heap.size, 1, none⟩ = some v1 ∧ wr.cell? ⟨wq.heap.size, 2, none⟩ = some v2 ∧ wr.cell? ⟨wq.heap.size, 3, none⟩ = some v3 ∧ wr.cell? ⟨wq.heap.size, 4, none⟩ = some sv :=
  ⟨row_cell (j := 0) h.o rfl, row_cell (j := 1) h.o rfl, row_cell (j := 2) h.o rfl, row_cell (j := 3) h.o rfl, row_cell (j := 4) h.o rfl⟩
theorem fix_end {w : World} {day : Int} {T : Ex} {k' d' : Int} {r n : ByteArray} (h : TwL wq (.int .u8 k') (.string r) (.string n) (.int .i64 d') wr sv m Ts) (hq : wq.heap.size = w.heap.size + 1 + 1) (hB : Below w.heap.size w wq) (h0 : 0 ≤ k') (h1 : k' ≤ 255) (hr : r.size ≤ 140737488351232) (hn : n.size ≤ 140737488351232) (d0 : -9223372036854775808 ≤ d') (d1 : d' ≤ 9223372036854775807) (hm : m ≤ 1000000)
    (he : Ex.mk k' r n d' none 0 (Ts.map Ex.er) = T.fx day) :
    FixR day T w (.returned (.agg #[.int .u8 k', .string r, .string n, .int .i64 d', sv])) (((((wr.setCell ⟨w.heap.size + 1, 0, none⟩ (.int .u8 k')).setCell ⟨w.heap.size + 1, 1, none⟩ (.string r)).setCell ⟨w.heap.size + 1, 2, none⟩ (.string n)).setCell ⟨w.heap.size + 1, 3, none⟩ (.int .i64 d')).setCell ⟨w.heap.size + 1, 4, none⟩ sv) := by
  obtain ⟨A, c, rfl, hl, hi, hf⟩ := h.tree k' r n d' h0 h1 hr hn d0 d1 hm
  have hav : (Ex.mk k' r n d' A c Ts).Av (w.heap.size + 1) := hf.av (by omega)
  have hle : w.heap.size ≤ w.heap.size + 1 := by omega
  refine ⟨Ex.mk k' r n d' A c Ts, by rw [hl]; rfl, ?_, by rw [Ex.er_mk]; exact he, hf.mono (by omega), ?_⟩
  · exact ((((hi.set ⟨w.heap.size + 1, 0, none⟩ _ hav).set ⟨w.heap.size + 1, 1, none⟩ _ hav).set ⟨w.heap.size + 1, 2, none⟩ _ hav).set ⟨w.heap.size + 1, 3, none⟩ _ hav).set ⟨w.heap.size + 1, 4, none⟩ _ hav
  · have hb : Below w.heap.size w wr := hB.trans (h.B.mono (by omega))
    exact ((((hb.setCell (p := ⟨w.heap.size + 1, 0, none⟩) hle _).setCell (p := ⟨w.heap.size + 1, 1, none⟩) hle _).setCell (p := ⟨w.heap.size + 1, 2, none⟩) hle _).setCell (p := ⟨w.heap.size + 1, 3, none⟩) hle _).setCell (p := ⟨w.heap.size + 1, 4, none⟩) hle _
end
theorem own_sliceT {w : World} {base : Nat} {e : TypeId} {size : Nat} {v : Value} {n : Nat} {xs : List Value} (h : w.ownsRow base e size v n xs) : ∃ A c, v = .slice A n c := by
  rcases h.2 with ⟨rfl, rfl⟩ | ⟨g, cap, cur, rfl, -⟩
  · exact ⟨none, 0, rfl⟩
  · exact ⟨_, cap, rfl⟩
theorem isSome_setT (w : World) (a b : Addr) (v : Value) (h : (w.cell? b).isSome = true) : ((w.setCell a v).cell? b).isSome = true := by
  by_cases e : a = b
  · subst e; rw [World.cell?_setCell_same' _ _ _ h]; rfl
  · rw [World.cell?_setCell_other _ _ _ _ e]; exact h
set_option maxRecDepth 100000 in
set_option maxHeartbeats 6400000 in
theorem fixed_any8 (day : Int) (e0 : -9223372036854775808 ≤ day) (e1 : day ≤ 9223372036854775807) (T : Ex) : ∀ (w : World), T.In w → T.siz ≤ 600 → Calls Tryz.prog 43 #[T.val, .int .i64 day] w (FixR day T w) := by
  have mixed : Tryz.prog.follows Departure.mixedOrders = true := by kernel_rfl
  induction T using Ex.ind with
  | h kk rr nn dd A c s ih =>
  intro w hin hz
  obtain ⟨i0, hi0, hz0, hs0, hb0⟩ := info_parts infoEx
  have hbd := hin.bd
  have hlen : s.length ≤ 600 := by have := Ex.len_lt (k := kk) (r := rr) (n := nn) (d := dd) (A := A) (c := c) (s := s); omega
  have hB1 := belO w (.cells #[.int .u8 kk, .string rr, .string nn, .int .i64 dd, .slice A s.length c] 26)
  have hC : Ex.Box (w.alloc (.cells #[.int .u8 kk, .string rr, .string nn, .int .i64 dd, .slice A s.length c] 26)) w.heap.size (.mk kk rr nn dd A c s) := Ex.Box.new w (.mk kk rr nn dd A c s) 26
  obtain ⟨w1, hw1⟩ : ∃ w1, w.alloc (.cells #[.int .u8 kk, .string rr, .string nn, .int .i64 dd, .slice A s.length c] 26) = w1 := ⟨_, rfl⟩
  rw [hw1] at hB1 hC
  have s1 : w1.heap.size = w.heap.size + 1 := by rw [← hw1, World.size_alloc]
  have hB2 := belO w1 (.cells #[.int .u8 0, .string ⟨#[]⟩, .string ⟨#[]⟩, .int .i64 0, .slice none 0 0] 26)
  have hR := heap_alloc_new w1 (.cells #[.int .u8 0, .string ⟨#[]⟩, .string ⟨#[]⟩, .int .i64 0, .slice none 0 0] 26)
  obtain ⟨wq, hwq⟩ : ∃ wq, w1.alloc (.cells #[.int .u8 0, .string ⟨#[]⟩, .string ⟨#[]⟩, .int .i64 0, .slice none 0 0] 26) = wq := ⟨_, rfl⟩
  rw [hwq] at hB2 hR
  rw [s1] at hR
  have s2 : wq.heap.size = w.heap.size + 1 + 1 := by rw [← hwq, World.size_alloc, s1]
  have hB := btO hB1 hB2
  have hCq := hC.below hB2
  obtain ⟨c0, c1, c2, c3, c4⟩ := hCq
  simp only [Ex.k, Ex.r, Ex.n, Ex.d, Ex.A, Ex.c, Ex.sub] at c0 c1 c2 c3 c4
  have HB := Lib.hid hB
  have HR := Lib.hid hR
  have HS2 := Lib.hid s2
  have HC := Lib.hid (hC.below hB2)
  have HI := Lib.hid (hin.below hB)
  have IH := Lib.hid ih
  have HZ := Lib.hid (fun t (ht : t ∈ s) => (show t.siz ≤ 600 by have := Ex.siz_sub (k := kk) (r := rr) (n := nn) (d := dd) (A := A) (c := c) ht; omega))
  have HBD := Lib.hid hbd
  have hk0 : 0 ≤ kk := hbd.k0
  have hk1 : kk ≤ 255 := hbd.k1
  have hl63 : s.length ≤ 9223372036854775807 := by omega
  show Calls Tryz.prog 43 #[.agg #[.int .u8 kk, .string rr, .string nn, .int .i64 dd, .slice A s.length c], .int .i64 day] w _
  obtain ⟨k', hk'⟩ : ∃ k', (if kk = 3 then 2 else kk) = k' := ⟨_, rfl⟩
  obtain ⟨d', hd'⟩ : ∃ d', (if kk = 3 then day else dd) = d' := ⟨_, rfl⟩
  have HF := Lib.hid (show ∀ Ts : List Ex, Ts.map Ex.er = s.map (Ex.fx day) → Ex.mk k' rr nn d' none 0 (Ts.map Ex.er) = Ex.fx day (.mk kk rr nn dd A c s) from fun Ts e => by rw [Ex.fx_mk, hk', hd', e])
  have HN := Lib.hid (show 0 ≤ k' ∧ k' ≤ 255 ∧ -9223372036854775808 ≤ d' ∧ d' ≤ 9223372036854775807 from by
    have := hbd.d0; have := hbd.d1
    refine ⟨?_, ?_, ?_, ?_⟩ <;> (first | rw [← hk'] | rw [← hd']) <;> split <;> first | omega | assumption)
  have HT0 := TwL.start wq (.int .u8 kk) (.string rr) (.string nn) (.int .i64 dd)
  have hbq := belO wq (.cells #[.int .u8 kk, .string rr, .string nn, .int .i64 dd, .slice none 0 0] 26)
  have x0 := cellO hbq c0
  have x1 := cellO hbq c1
  have x2 := cellO hbq c2
  have x3 := cellO hbq c3
  have x4 := cellO hbq c4
  obtain ⟨o0, o1, o2, o3, o4⟩ := HT0.cells
  have p0 := row_frz (j := 0) HT0.o
  have p3 := row_frz (j := 3) HT0.o
  rw [s2] at o0 o1 o2 o3 o4 p0 p3
  have HT := Lib.hid HT0
  have HD := Lib.hid (TwL.start wq (.int .u8 2) (.string rr) (.string nn) (.int .i64 day))
  clear hin ih hz hbd hB1 hB2 hB hC hR HT0 hbq
  by_cases h3 : kk = 3
  · subst h3
    obtain rfl : 2 = k' := hk'
    obtain rfl : day = d' := hd'
    clear HT
    go_enter Tryz.func43, Tryz.ntmps43
    go_wp2_with (fail)
    clear c0 c1 c2 c3 c4 x0 x1 x2 x3 x4 o0 o1 o2 o3 o4 p0 p3
    go_loopw [6] (fun i wr => ∃ (k : Nat) (sv : Value) (Ts : List Ex), k ≤ s.length ∧ i = .int .i64 k ∧ Hid (TwL wq (.int .u8 2) (.string rr) (.string nn) (.int .i64 day) wr sv k Ts) ∧ Hid (Ts.map Ex.er = (s.take k).map (Ex.fx day))) (fun i _ => s.length - (intOf i).toNat)
    case atStart => exact ⟨0, _, [], by omega, rfl, HD.out, by show _ = _; simp⟩
    case round =>
      obtain ⟨k, sv, Ts, hk, rfl, HU, HE⟩ := hrel
      have hq2 : w.heap.size < wq.heap.size := by have := HS2.out; omega
      have b4 : wr.cell? ⟨w.heap.size, 4, none⟩ = some (.slice A s.length c) := (HU.out.B.cell (p := ⟨w.heap.size, 4, none⟩) hq2).trans HC.out.c4
      clear hq2
      by_cases hlt : k < s.length
      · obtain ⟨b, o, rfl, hbq, hpq, e0q, e1q, e2q, e3q, e4q⟩ := HI.out.part hlt
        have hpi := hpq.below HU.out.B
        have d0 := (HU.out.B.cell (p := ⟨b, o + k * 5, none⟩) hbq).trans e0q
        have d1 := (HU.out.B.cell (p := ⟨b, o + k * 5 + 1, none⟩) hbq).trans e1q
        have d2 := (HU.out.B.cell (p := ⟨b, o + k * 5 + 2, none⟩) hbq).trans e2q
        have d3 := (HU.out.B.cell (p := ⟨b, o + k * 5 + 3, none⟩) hbq).trans e3q
        have d4 := (HU.out.B.cell (p := ⟨b, o + k * 5 + 4, none⟩) hbq).trans e4q
        have HL := Lib.hid (fun (W : World) (hW : Below wq.heap.size wq W) => And.intro ((hW.cell (p := ⟨w.heap.size, 4, none⟩) (by show w.heap.size < _; have := HS2.out; omega)).trans HC.out.c4) (And.intro ((hW.cell (p := ⟨b, o + k * 5, none⟩) hbq).trans e0q) (And.intro ((hW.cell (p := ⟨b, o + k * 5 + 1, none⟩) hbq).trans e1q) (And.intro ((hW.cell (p := ⟨b, o + k * 5 + 2, none⟩) hbq).trans e2q) (And.intro ((hW.cell (p := ⟨b, o + k * 5 + 3, none⟩) hbq).trans e3q) ((hW.cell (p := ⟨b, o + k * 5 + 4, none⟩) hbq).trans e4q))))))
        clear e0q e1q e2q e3q e4q hbq
        have hm : s[k] ∈ s := List.getElem_mem hlt
        have HQ := Lib.hid (fun W (hW : Below wr.heap.size wr W) => IH.out s[k] hm W (hpi.below hW) (HZ.out _ hm))
        have HE2 := Lib.hid (show (s.take (k + 1)).map (Ex.fx day) = (s.take k).map (Ex.fx day) ++ [Ex.fx day s[k]] by rw [List.take_succ_eq_append_getElem hlt, List.map_append]; rfl)
        generalize s[k] = t at *
        clear hpi hm hpq
        have q4 : wr.cell? ⟨w.heap.size + 1 + 1, 4, none⟩ = some sv := by have := HU.out.cells.2.2.2.2; rw [HS2.out] at this; exact this
        have hk0 : (0 : Int) ≤ (k : Int) := by omega
        have hk1 : (k : Int) < (s.length : Int) := by omega
        have BR := (Below.refl wr.heap.size wr).drew
        have hbs : wq.heap.size + 1 ≤ wr.heap.size := lt_of_block HU.out.o
        have hk6 : k ≤ 1000000 := by omega
        have q4s : (wr.cell? ⟨w.heap.size + 1 + 1, 4, none⟩).isSome = true := by rw [q4]; rfl
        have q4f : wr.frozen? ⟨w.heap.size + 1 + 1, 4, none⟩ = false := by have := row_frz (j := 4) HU.out.o; rw [HS2.out] at this; exact this
        go_wp2_with (fail)
        go_region_law (first
          | (refine step_appT (HU.out.to B6).own T' rfl _ _ 24 rfl i0 _ Tryz.underlying24 hi0 hz0 hs0 hb0 rfl rfl rfl hk6 hw6 ?_; intro v' w7 a1 a2 a3; obtain ⟨A9, c9, rfl⟩ := own_sliceT a1; have S7 := Lib.hid (TwL.app HU.out B6 hi' hf' a2 a1 a3); have m4 : w7.cell? ⟨w.heap.size + 1 + 1, 4, none⟩ = some sv := (by have := row_cell (j := 4) S7.out.2.1 rfl; rw [HS2.out] at this; exact this); have n4 : w7.frozen? ⟨w.heap.size + 1 + 1, 4, none⟩ = false := (by have := row_frz (j := 4) S7.out.2.1; rw [HS2.out] at this; exact this); obtain ⟨l0, l1, l2, l3, l4, l5⟩ := HL.out _ S7.out.2.2; have m4s : (w7.cell? ⟨w.heap.size + 1 + 1, 4, none⟩).isSome = true := (by rw [m4]; rfl); have S9 : Below wq.heap.size wq (w7.setCell ⟨w.heap.size + 1 + 1, 4, none⟩ (.slice A9 (k + 1) c9)) := (by have := S7.out.1.B; rw [HS2.out] at this ⊢; exact this); obtain ⟨z0, z1, z2, z3, z4, z5⟩ := HL.out _ S9; have z6 : ((w7.setCell ⟨w.heap.size + 1 + 1, 4, none⟩ (.slice A9 (k + 1) c9)).cell? ⟨w.heap.size + 1 + 1, 4, none⟩).isSome = true := isSome_setT _ _ _ _ m4s; have z7 : (w7.setCell ⟨w.heap.size + 1 + 1, 4, none⟩ (.slice A9 (k + 1) c9)).frozen? ⟨w.heap.size + 1 + 1, 4, none⟩ = false := (by rw [World.frozen?_setCell]; exact n4); clear a1 a2 a3 S9)
          | (go_simp; go_at_call 43; refine (HQ.out _ BR).mono ?_; rintro e w6 ⟨T', rfl, hi', he', hf', hb'⟩; have B6 : Below wr.heap.size wr w6 := btO BR hb'; have g0 : w6.cell? ⟨w.heap.size + 1 + 1, 4, none⟩ = some sv := cellO hb' q4; have g0s : (w6.cell? ⟨w.heap.size + 1 + 1, 4, none⟩).isSome = true := (by rw [g0]; rfl); have g0f : w6.frozen? ⟨w.heap.size + 1 + 1, 4, none⟩ = false := (by have := row_frz (j := 4) (HU.out.to B6).o; rw [HS2.out] at this; exact this); have g1 := cellO hb' b4; have g2 := cellO hb' d0; have g3 := cellO hb' d1; have g4 := cellO hb' d2; have g5 := cellO hb' d3; have g6 := cellO hb' d4; have g0v : ∀ o : Obj, (w6.alloc o).cell? ⟨w.heap.size + 1 + 1, 4, none⟩ = some sv := (fun o => cellO (belO w6 o) g0); have g0a : ∀ o : Obj, ((w6.alloc o).cell? ⟨w.heap.size + 1 + 1, 4, none⟩).isSome = true := (fun o => by rw [cellO (belO w6 o) g0]; rfl); have g0b : ∀ o : Obj, (w6.alloc o).frozen? ⟨w.heap.size + 1 + 1, 4, none⟩ = false := (fun o => by have := row_frz (j := 4) (HU.out.to (btO B6 (belO w6 o))).o; rw [HS2.out] at this; exact this); have hw6 : wq.heap.size + 1 ≤ w6.heap.size := Nat.le_trans hbs B6.size))
        all_goals go_wp2_with (fail)
        all_goals go_roundw
        all_goals first
          | (have S8 := S7.out.1
             rw [HS2.out] at S8
             exact ⟨k + 1, _, Ts ++ [T'], by omega, by go_num, S8, by show _ = _; rw [List.map_append, HE.out, HE2.out]; simp [he']⟩)
          | (simp [intOf]; omega)
      · obtain rfl : k = s.length := by omega
        obtain ⟨A8, c8, rfl⟩ := own_sliceT HU.out.own
        have hrow := (HU.out.B.block _ (lt_of_block HR.out)).trans HR.out
        obtain ⟨u0, u1, u2, u3, u4⟩ := HU.out.cells
        rw [HS2.out] at u0 u1 u2 u3 u4
        have y0 := row_cell (j := 0) hrow rfl
        have y1 := row_cell (j := 1) hrow rfl
        have y2 := row_cell (j := 2) hrow rfl
        have y3 := row_cell (j := 3) hrow rfl
        have y4 := row_cell (j := 4) hrow rfl
        have n0 := row_frz (j := 0) hrow
        have n1 := row_frz (j := 1) hrow
        have n2 := row_frz (j := 2) hrow
        have n3 := row_frz (j := 3) hrow
        have n4 := row_frz (j := 4) hrow
        have HRow := Lib.hid hrow
        clear hrow
        go_wp2_with (fail)
        refine bodyPost_ret (results_cell_row rfl _ _ (w.heap.size + 1) 26 _ (0, 0) _ rfl (sc5_rowT HRow.out) Tryz.underlying26 (by kernel_rfl) (by kernel_rfl)) rfl ?_
        exact fix_end HU.out HS2.out HB.out HN.out.1 HN.out.2.1 HBD.out.r1 HBD.out.n1 HN.out.2.2.1 HN.out.2.2.2 (by omega) (HF.out Ts (by have := HE.out; rw [List.take_length] at this; exact this))
  · have h3b : (kk == 3) = false := by rw [beq_eq_false_iff_ne]; exact h3
    obtain rfl : kk = k' := by rw [if_neg h3] at hk'; exact hk'
    obtain rfl : dd = d' := by rw [if_neg h3] at hd'; exact hd'
    clear hk' hd' HD h3
    go_enter Tryz.func43, Tryz.ntmps43
    go_wp2_with (fail)
    clear c0 c1 c2 c3 c4 x0 x1 x2 x3 x4 o0 o1 o2 o3 o4 p0 p3
    go_loopw [6] (fun i wr => ∃ (k : Nat) (sv : Value) (Ts : List Ex), k ≤ s.length ∧ i = .int .i64 k ∧ Hid (TwL wq (.int .u8 kk) (.string rr) (.string nn) (.int .i64 dd) wr sv k Ts) ∧ Hid (Ts.map Ex.er = (s.take k).map (Ex.fx day))) (fun i _ => s.length - (intOf i).toNat)
    case atStart => exact ⟨0, _, [], by omega, rfl, HT.out, by show _ = _; simp⟩
    case round =>
      obtain ⟨k, sv, Ts, hk, rfl, HU, HE⟩ := hrel
      have hq2 : w.heap.size < wq.heap.size := by have := HS2.out; omega
      have b4 : wr.cell? ⟨w.heap.size, 4, none⟩ = some (.slice A s.length c) := (HU.out.B.cell (p := ⟨w.heap.size, 4, none⟩) hq2).trans HC.out.c4
      clear hq2
      by_cases hlt : k < s.length
      · obtain ⟨b, o, rfl, hbq, hpq, e0q, e1q, e2q, e3q, e4q⟩ := HI.out.part hlt
        have hpi := hpq.below HU.out.B
        have d0 := (HU.out.B.cell (p := ⟨b, o + k * 5, none⟩) hbq).trans e0q
        have d1 := (HU.out.B.cell (p := ⟨b, o + k * 5 + 1, none⟩) hbq).trans e1q
        have d2 := (HU.out.B.cell (p := ⟨b, o + k * 5 + 2, none⟩) hbq).trans e2q
        have d3 := (HU.out.B.cell (p := ⟨b, o + k * 5 + 3, none⟩) hbq).trans e3q
        have d4 := (HU.out.B.cell (p := ⟨b, o + k * 5 + 4, none⟩) hbq).trans e4q
        have HL := Lib.hid (fun (W : World) (hW : Below wq.heap.size wq W) => And.intro ((hW.cell (p := ⟨w.heap.size, 4, none⟩) (by show w.heap.size < _; have := HS2.out; omega)).trans HC.out.c4) (And.intro ((hW.cell (p := ⟨b, o + k * 5, none⟩) hbq).trans e0q) (And.intro ((hW.cell (p := ⟨b, o + k * 5 + 1, none⟩) hbq).trans e1q) (And.intro ((hW.cell (p := ⟨b, o + k * 5 + 2, none⟩) hbq).trans e2q) (And.intro ((hW.cell (p := ⟨b, o + k * 5 + 3, none⟩) hbq).trans e3q) ((hW.cell (p := ⟨b, o + k * 5 + 4, none⟩) hbq).trans e4q))))))
        clear e0q e1q e2q e3q e4q hbq
        have hm : s[k] ∈ s := List.getElem_mem hlt
        have HQ := Lib.hid (fun W (hW : Below wr.heap.size wr W) => IH.out s[k] hm W (hpi.below hW) (HZ.out _ hm))
        have HE2 := Lib.hid (show (s.take (k + 1)).map (Ex.fx day) = (s.take k).map (Ex.fx day) ++ [Ex.fx day s[k]] by rw [List.take_succ_eq_append_getElem hlt, List.map_append]; rfl)
        generalize s[k] = t at *
        clear hpi hm hpq
        have q4 : wr.cell? ⟨w.heap.size + 1 + 1, 4, none⟩ = some sv := by have := HU.out.cells.2.2.2.2; rw [HS2.out] at this; exact this
        have hk0 : (0 : Int) ≤ (k : Int) := by omega
        have hk1 : (k : Int) < (s.length : Int) := by omega
        have BR := (Below.refl wr.heap.size wr).drew
        have hbs : wq.heap.size + 1 ≤ wr.heap.size := lt_of_block HU.out.o
        have hk6 : k ≤ 1000000 := by omega
        have q4s : (wr.cell? ⟨w.heap.size + 1 + 1, 4, none⟩).isSome = true := by rw [q4]; rfl
        have q4f : wr.frozen? ⟨w.heap.size + 1 + 1, 4, none⟩ = false := by have := row_frz (j := 4) HU.out.o; rw [HS2.out] at this; exact this
        go_wp2_with (fail)
        go_region_law (first
          | (refine step_appT (HU.out.to B6).own T' rfl _ _ 24 rfl i0 _ Tryz.underlying24 hi0 hz0 hs0 hb0 rfl rfl rfl hk6 hw6 ?_; intro v' w7 a1 a2 a3; obtain ⟨A9, c9, rfl⟩ := own_sliceT a1; have S7 := Lib.hid (TwL.app HU.out B6 hi' hf' a2 a1 a3); have m4 : w7.cell? ⟨w.heap.size + 1 + 1, 4, none⟩ = some sv := (by have := row_cell (j := 4) S7.out.2.1 rfl; rw [HS2.out] at this; exact this); have n4 : w7.frozen? ⟨w.heap.size + 1 + 1, 4, none⟩ = false := (by have := row_frz (j := 4) S7.out.2.1; rw [HS2.out] at this; exact this); obtain ⟨l0, l1, l2, l3, l4, l5⟩ := HL.out _ S7.out.2.2; have m4s : (w7.cell? ⟨w.heap.size + 1 + 1, 4, none⟩).isSome = true := (by rw [m4]; rfl); have S9 : Below wq.heap.size wq (w7.setCell ⟨w.heap.size + 1 + 1, 4, none⟩ (.slice A9 (k + 1) c9)) := (by have := S7.out.1.B; rw [HS2.out] at this ⊢; exact this); obtain ⟨z0, z1, z2, z3, z4, z5⟩ := HL.out _ S9; have z6 : ((w7.setCell ⟨w.heap.size + 1 + 1, 4, none⟩ (.slice A9 (k + 1) c9)).cell? ⟨w.heap.size + 1 + 1, 4, none⟩).isSome = true := isSome_setT _ _ _ _ m4s; have z7 : (w7.setCell ⟨w.heap.size + 1 + 1, 4, none⟩ (.slice A9 (k + 1) c9)).frozen? ⟨w.heap.size + 1 + 1, 4, none⟩ = false := (by rw [World.frozen?_setCell]; exact n4); clear a1 a2 a3 S9)
          | (go_simp; go_at_call 43; refine (HQ.out _ BR).mono ?_; rintro e w6 ⟨T', rfl, hi', he', hf', hb'⟩; have B6 : Below wr.heap.size wr w6 := btO BR hb'; have g0 : w6.cell? ⟨w.heap.size + 1 + 1, 4, none⟩ = some sv := cellO hb' q4; have g0s : (w6.cell? ⟨w.heap.size + 1 + 1, 4, none⟩).isSome = true := (by rw [g0]; rfl); have g0f : w6.frozen? ⟨w.heap.size + 1 + 1, 4, none⟩ = false := (by have := row_frz (j := 4) (HU.out.to B6).o; rw [HS2.out] at this; exact this); have g1 := cellO hb' b4; have g2 := cellO hb' d0; have g3 := cellO hb' d1; have g4 := cellO hb' d2; have g5 := cellO hb' d3; have g6 := cellO hb' d4; have g0v : ∀ o : Obj, (w6.alloc o).cell? ⟨w.heap.size + 1 + 1, 4, none⟩ = some sv := (fun o => cellO (belO w6 o) g0); have g0a : ∀ o : Obj, ((w6.alloc o).cell? ⟨w.heap.size + 1 + 1, 4, none⟩).isSome = true := (fun o => by rw [cellO (belO w6 o) g0]; rfl); have g0b : ∀ o : Obj, (w6.alloc o).frozen? ⟨w.heap.size + 1 + 1, 4, none⟩ = false := (fun o => by have := row_frz (j := 4) (HU.out.to (btO B6 (belO w6 o))).o; rw [HS2.out] at this; exact this); have hw6 : wq.heap.size + 1 ≤ w6.heap.size := Nat.le_trans hbs B6.size))
        all_goals go_wp2_with (fail)
        all_goals go_roundw
        all_goals first
          | (have S8 := S7.out.1
             rw [HS2.out] at S8
             exact ⟨k + 1, _, Ts ++ [T'], by omega, by go_num, S8, by show _ = _; rw [List.map_append, HE.out, HE2.out]; simp [he']⟩)
          | (simp [intOf]; omega)
      · obtain rfl : k = s.length := by omega
        obtain ⟨A8, c8, rfl⟩ := own_sliceT HU.out.own
        have hrow := (HU.out.B.block _ (lt_of_block HR.out)).trans HR.out
        obtain ⟨u0, u1, u2, u3, u4⟩ := HU.out.cells
        rw [HS2.out] at u0 u1 u2 u3 u4
        have y0 := row_cell (j := 0) hrow rfl
        have y1 := row_cell (j := 1) hrow rfl
        have y2 := row_cell (j := 2) hrow rfl
        have y3 := row_cell (j := 3) hrow rfl
        have y4 := row_cell (j := 4) hrow rfl
        have n0 := row_frz (j := 0) hrow
        have n1 := row_frz (j := 1) hrow
        have n2 := row_frz (j := 2) hrow
        have n3 := row_frz (j := 3) hrow
        have n4 := row_frz (j := 4) hrow
        have HRow := Lib.hid hrow
        clear hrow
        go_wp2_with (fail)
        refine bodyPost_ret (results_cell_row rfl _ _ (w.heap.size + 1) 26 _ (0, 0) _ rfl (sc5_rowT HRow.out) Tryz.underlying26 (by kernel_rfl) (by kernel_rfl)) rfl ?_
        exact fix_end HU.out HS2.out HB.out HN.out.1 HN.out.2.1 HBD.out.r1 HBD.out.n1 HN.out.2.2.1 HN.out.2.2.2 (by omega) (HF.out Ts (by have := HE.out; rw [List.take_length] at this; exact this))
end Go.Proofs.YtbfimfjhdbpenaaGreatDoor

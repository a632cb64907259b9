/- Joined: OeC3, OeC4, OeD, OeE. -/
import Derived.Test.YtnomccgdajcfiaaGreatDoorPk25
import Derived.Test.YtnomccgdajcfiaaGreatDoorPk24
import Derived.Test.YtnomccgdajcfiaaGreatDoorPk23
import Derived.Test.YtnomccgdajcfiaaGreatDoorPk22
import Derived.Deep.RegionHeld3
/- Layer 8: the program's evaluation: number, truth: the operations. -/
namespace Go.Proofs.YtnomccgdajcfiaaGreatDoor
open Go Go.RowKit Go.Maps Go.BigFrame
set_option maxRecDepth 100000 in
set_option maxHeartbeats 6400000 in
theorem pnum_4 (va vb v : ByteArray) (e : Int) (rr nn : ByteArray) (dd : Int) (A : Option Addr) (c : Nat) (s : List Ex) (E : Ev) (day : Int) (w : World) (hin : Ex.In w (.mk 4 rr nn dd A c s)) (hE : E.Inv w) (hq : ∀ W, Ex.In W (.mk 4 rr nn dd A c s) → E.Inv W → Calls Tryz.prog 90 #[evV day E, Ex.val (.mk 4 rr nn dd A c s)] W (PrE va vb 0 W)) (ho : ∀ W, Below w.heap.size w W → Calls Tryz.prog 128 #[.agg #[.string va, .string vb]] W (StE v e W)) :
    Calls Tryz.prog 51 #[evV day E, Ex.val (.mk 4 rr nn dd A c s)] w (StE v e w) := by
  obtain ⟨fA, fs, fc, cA, cs, cc⟩ := E
  obtain ⟨w1, hw1, hB, hS⟩ := pv_begin w day 4 rr nn dd A s.length c fA fs.length fc cA cs.length cc
  have HB := Lib.hid hB
  have HG := Lib.hid (fun W (hW : Below w1.heap.size w1 W) => hS.below hW)
  have HF : Hid (Calls Tryz.prog 90 #[.agg #[.int .i64 day, .slice fA fs.length fc, .slice cA cs.length cc], .agg #[.int .u8 4, .string rr, .string nn, .int .i64 dd, .slice A s.length c]] w1 (PrE va vb 0 w1)) := hq w1 (hin.below hB) (hE.below hB)
  clear hq
  have HO := Lib.hid (fun W (hW : Below w1.heap.size w1 W) => ho W (btO hB hW))
  clear ho
  have HOps := Lib.hid pops_any
  have HW1 := Lib.hid (Below.refl w1.heap.size w1)
  show Calls Tryz.prog 51 #[.agg #[.int .i64 day, .slice fA fs.length fc, .slice cA cs.length cc], .agg #[.int .u8 4, .string rr, .string nn, .int .i64 dd, .slice A s.length c]] w _
  clear hin hE hB hS
  obtain ⟨e0, e1, e2, c0, c1, c2, c3, c4⟩ := HG.out _ HW1.out
  go_enter Tryz.func51, Tryz.ntmps51
  go_wp2_with ((go_at_call 90; ((with_reducible refine HF.out.mono ?_); rintro x w2 ⟨rfl, hb⟩; have HW2 := Lib.hid hb; clear hb)))
  clear hw1 e0 e1 e2 c0 c1 c2 c3 c4
  obtain ⟨w5, hw5⟩ : ∃ w5, w2.alloc (.cells #[.string va, .string vb] 125) = w5 := ⟨_, rfl⟩
  have hr := heap_alloc_new w2 (.cells #[.string va, .string vb] 125)
  have HW5 := Lib.hid (btO HW2.out (belO w2 (.cells #[.string va, .string vb] 125)))
  rw [hw5] at hr HW5
  have g0 := row_cell (j := 0) hr rfl
  have g1 := row_cell (j := 1) hr rfl
  obtain ⟨-, -, -, c0, -, -, -, -⟩ := HG.out _ HW5.out
  have kq : keyOf Tryz.prog 5 (.int .u8 4) = some (.int .u8 4) := keyOf_int_mk Tryz.underlying5 (by decide)
  have B5 := Below.drew (Below.refl w5.heap.size w5)
  clear hr
  try rw [hw5]
  clear hw5
  go_region_held3 (fun w' => w'.cell? ⟨w.heap.size + 1, 0, none⟩ = some (.int .u8 4) ∧ w'.cell? ⟨w2.heap.size, 0, none⟩ = some (.string va) ∧ w'.cell? ⟨w2.heap.size, 1, none⟩ = some (.string vb))
    (((try go_split_ands); (and_intros) <;> first | assumption | (go_keep; done)))
    (first
      | (go_split_ands; go_at_call 91; refine (HOps.out _).mono ?_; rintro e w6 ⟨Bm, rfl, om, b6⟩; have B6 := btO B5 b6; have hl := lookF_run 129 5 128 u8K Tryz.underlying129 (zero_ops _) Bm 5 opsD om _ _ kq 128 at_ops4; have i0 := cellO b6 c0; have i1 := cellO b6 g0; have i2 := cellO b6 g1)
      | (go_split_ands; go_at_call 128; refine (HO.out _ (btO HW5.out B6)).mono ?_; rintro e w7 ⟨rfl, b7⟩; have B7 := btO B6 b7; have j0 := cellO b7 i0; have j1 := cellO b7 i1; have j2 := cellO b7 i2))
  all_goals go_wp2_with (fail)
  all_goals go_ret2
  all_goals exact ⟨rfl, btO HB.out (btO HW5.out B7)⟩
set_option maxRecDepth 100000 in
set_option maxHeartbeats 6400000 in
theorem pnum_5 (va vb v : ByteArray) (e : Int) (rr nn : ByteArray) (dd : Int) (A : Option Addr) (c : Nat) (s : List Ex) (E : Ev) (day : Int) (w : World) (hin : Ex.In w (.mk 5 rr nn dd A c s)) (hE : E.Inv w) (hq : ∀ W, Ex.In W (.mk 5 rr nn dd A c s) → E.Inv W → Calls Tryz.prog 90 #[evV day E, Ex.val (.mk 5 rr nn dd A c s)] W (PrE va vb 0 W)) (ho : ∀ W, Below w.heap.size w W → Calls Tryz.prog 129 #[.agg #[.string va, .string vb]] W (StE v e W)) :
    Calls Tryz.prog 51 #[evV day E, Ex.val (.mk 5 rr nn dd A c s)] w (StE v e w) := by
  obtain ⟨fA, fs, fc, cA, cs, cc⟩ := E
  obtain ⟨w1, hw1, hB, hS⟩ := pv_begin w day 5 rr nn dd A s.length c fA fs.length fc cA cs.length cc
  have HB := Lib.hid hB
  have HG := Lib.hid (fun W (hW : Below w1.heap.size w1 W) => hS.below hW)
  have HF : Hid (Calls Tryz.prog 90 #[.agg #[.int .i64 day, .slice fA fs.length fc, .slice cA cs.length cc], .agg #[.int .u8 5, .string rr, .string nn, .int .i64 dd, .slice A s.length c]] w1 (PrE va vb 0 w1)) := hq w1 (hin.below hB) (hE.below hB)
  clear hq
  have HO := Lib.hid (fun W (hW : Below w1.heap.size w1 W) => ho W (btO hB hW))
  clear ho
  have HOps := Lib.hid pops_any
  have HW1 := Lib.hid (Below.refl w1.heap.size w1)
  show Calls Tryz.prog 51 #[.agg #[.int .i64 day, .slice fA fs.length fc, .slice cA cs.length cc], .agg #[.int .u8 5, .string rr, .string nn, .int .i64 dd, .slice A s.length c]] w _
  clear hin hE hB hS
  obtain ⟨e0, e1, e2, c0, c1, c2, c3, c4⟩ := HG.out _ HW1.out
  go_enter Tryz.func51, Tryz.ntmps51
  go_wp2_with ((go_at_call 90; ((with_reducible refine HF.out.mono ?_); rintro x w2 ⟨rfl, hb⟩; have HW2 := Lib.hid hb; clear hb)))
  clear hw1 e0 e1 e2 c0 c1 c2 c3 c4
  obtain ⟨w5, hw5⟩ : ∃ w5, w2.alloc (.cells #[.string va, .string vb] 125) = w5 := ⟨_, rfl⟩
  have hr := heap_alloc_new w2 (.cells #[.string va, .string vb] 125)
  have HW5 := Lib.hid (btO HW2.out (belO w2 (.cells #[.string va, .string vb] 125)))
  rw [hw5] at hr HW5
  have g0 := row_cell (j := 0) hr rfl
  have g1 := row_cell (j := 1) hr rfl
  obtain ⟨-, -, -, c0, -, -, -, -⟩ := HG.out _ HW5.out
  have kq : keyOf Tryz.prog 5 (.int .u8 5) = some (.int .u8 5) := keyOf_int_mk Tryz.underlying5 (by decide)
  have B5 := Below.drew (Below.refl w5.heap.size w5)
  clear hr
  try rw [hw5]
  clear hw5
  go_region_held3 (fun w' => w'.cell? ⟨w.heap.size + 1, 0, none⟩ = some (.int .u8 5) ∧ w'.cell? ⟨w2.heap.size, 0, none⟩ = some (.string va) ∧ w'.cell? ⟨w2.heap.size, 1, none⟩ = some (.string vb))
    (((try go_split_ands); (and_intros) <;> first | assumption | (go_keep; done)))
    (first
      | (go_split_ands; go_at_call 91; refine (HOps.out _).mono ?_; rintro e w6 ⟨Bm, rfl, om, b6⟩; have B6 := btO B5 b6; have hl := lookF_run 129 5 128 u8K Tryz.underlying129 (zero_ops _) Bm 5 opsD om _ _ kq 129 at_ops5; have i0 := cellO b6 c0; have i1 := cellO b6 g0; have i2 := cellO b6 g1)
      | (go_split_ands; go_at_call 129; refine (HO.out _ (btO HW5.out B6)).mono ?_; rintro e w7 ⟨rfl, b7⟩; have B7 := btO B6 b7; have j0 := cellO b7 i0; have j1 := cellO b7 i1; have j2 := cellO b7 i2))
  all_goals go_wp2_with (fail)
  all_goals go_ret2
  all_goals exact ⟨rfl, btO HB.out (btO HW5.out B7)⟩
set_option maxRecDepth 100000 in
set_option maxHeartbeats 6400000 in
theorem pnum_6 (va vb v : ByteArray) (e : Int) (rr nn : ByteArray) (dd : Int) (A : Option Addr) (c : Nat) (s : List Ex) (E : Ev) (day : Int) (w : World) (hin : Ex.In w (.mk 6 rr nn dd A c s)) (hE : E.Inv w) (hq : ∀ W, Ex.In W (.mk 6 rr nn dd A c s) → E.Inv W → Calls Tryz.prog 90 #[evV day E, Ex.val (.mk 6 rr nn dd A c s)] W (PrE va vb 0 W)) (ho : ∀ W, Below w.heap.size w W → Calls Tryz.prog 130 #[.agg #[.string va, .string vb]] W (StE v e W)) :
    Calls Tryz.prog 51 #[evV day E, Ex.val (.mk 6 rr nn dd A c s)] w (StE v e w) := by
  obtain ⟨fA, fs, fc, cA, cs, cc⟩ := E
  obtain ⟨w1, hw1, hB, hS⟩ := pv_begin w day 6 rr nn dd A s.length c fA fs.length fc cA cs.length cc
  have HB := Lib.hid hB
  have HG := Lib.hid (fun W (hW : Below w1.heap.size w1 W) => hS.below hW)
  have HF : Hid (Calls Tryz.prog 90 #[.agg #[.int .i64 day, .slice fA fs.length fc, .slice cA cs.length cc], .agg #[.int .u8 6, .string rr, .string nn, .int .i64 dd, .slice A s.length c]] w1 (PrE va vb 0 w1)) := hq w1 (hin.below hB) (hE.below hB)
  clear hq
  have HO := Lib.hid (fun W (hW : Below w1.heap.size w1 W) => ho W (btO hB hW))
  clear ho
  have HOps := Lib.hid pops_any
  have HW1 := Lib.hid (Below.refl w1.heap.size w1)
  show Calls Tryz.prog 51 #[.agg #[.int .i64 day, .slice fA fs.length fc, .slice cA cs.length cc], .agg #[.int .u8 6, .string rr, .string nn, .int .i64 dd, .slice A s.length c]] w _
  clear hin hE hB hS
  obtain ⟨e0, e1, e2, c0, c1, c2, c3, c4⟩ := HG.out _ HW1.out
  go_enter Tryz.func51, Tryz.ntmps51
  go_wp2_with ((go_at_call 90; ((with_reducible refine HF.out.mono ?_); rintro x w2 ⟨rfl, hb⟩; have HW2 := Lib.hid hb; clear hb)))
  clear hw1 e0 e1 e2 c0 c1 c2 c3 c4
  obtain ⟨w5, hw5⟩ : ∃ w5, w2.alloc (.cells #[.string va, .string vb] 125) = w5 := ⟨_, rfl⟩
  have hr := heap_alloc_new w2 (.cells #[.string va, .string vb] 125)
  have HW5 := Lib.hid (btO HW2.out (belO w2 (.cells #[.string va, .string vb] 125)))
  rw [hw5] at hr HW5
  have g0 := row_cell (j := 0) hr rfl
  have g1 := row_cell (j := 1) hr rfl
  obtain ⟨-, -, -, c0, -, -, -, -⟩ := HG.out _ HW5.out
  have kq : keyOf Tryz.prog 5 (.int .u8 6) = some (.int .u8 6) := keyOf_int_mk Tryz.underlying5 (by decide)
  have B5 := Below.drew (Below.refl w5.heap.size w5)
  clear hr
  try rw [hw5]
  clear hw5
  go_region_held3 (fun w' => w'.cell? ⟨w.heap.size + 1, 0, none⟩ = some (.int .u8 6) ∧ w'.cell? ⟨w2.heap.size, 0, none⟩ = some (.string va) ∧ w'.cell? ⟨w2.heap.size, 1, none⟩ = some (.string vb))
    (((try go_split_ands); (and_intros) <;> first | assumption | (go_keep; done)))
    (first
      | (go_split_ands; go_at_call 91; refine (HOps.out _).mono ?_; rintro e w6 ⟨Bm, rfl, om, b6⟩; have B6 := btO B5 b6; have hl := lookF_run 129 5 128 u8K Tryz.underlying129 (zero_ops _) Bm 5 opsD om _ _ kq 130 at_ops6; have i0 := cellO b6 c0; have i1 := cellO b6 g0; have i2 := cellO b6 g1)
      | (go_split_ands; go_at_call 130; refine (HO.out _ (btO HW5.out B6)).mono ?_; rintro e w7 ⟨rfl, b7⟩; have B7 := btO B6 b7; have j0 := cellO b7 i0; have j1 := cellO b7 i1; have j2 := cellO b7 i2))
  all_goals go_wp2_with (fail)
  all_goals go_ret2
  all_goals exact ⟨rfl, btO HB.out (btO HW5.out B7)⟩
set_option maxRecDepth 100000 in
set_option maxHeartbeats 6400000 in
theorem pnum_7 (va vb v : ByteArray) (e : Int) (rr nn : ByteArray) (dd : Int) (A : Option Addr) (c : Nat) (s : List Ex) (E : Ev) (day : Int) (w : World) (hin : Ex.In w (.mk 7 rr nn dd A c s)) (hE : E.Inv w) (hq : ∀ W, Ex.In W (.mk 7 rr nn dd A c s) → E.Inv W → Calls Tryz.prog 90 #[evV day E, Ex.val (.mk 7 rr nn dd A c s)] W (PrE va vb 0 W)) (ho : ∀ W, Below w.heap.size w W → Calls Tryz.prog 131 #[.agg #[.string va, .string vb]] W (StE v e W)) :
    Calls Tryz.prog 51 #[evV day E, Ex.val (.mk 7 rr nn dd A c s)] w (StE v e w) := by
  obtain ⟨fA, fs, fc, cA, cs, cc⟩ := E
  obtain ⟨w1, hw1, hB, hS⟩ := pv_begin w day 7 rr nn dd A s.length c fA fs.length fc cA cs.length cc
  have HB := Lib.hid hB
  have HG := Lib.hid (fun W (hW : Below w1.heap.size w1 W) => hS.below hW)
  have HF : Hid (Calls Tryz.prog 90 #[.agg #[.int .i64 day, .slice fA fs.length fc, .slice cA cs.length cc], .agg #[.int .u8 7, .string rr, .string nn, .int .i64 dd, .slice A s.length c]] w1 (PrE va vb 0 w1)) := hq w1 (hin.below hB) (hE.below hB)
  clear hq
  have HO := Lib.hid (fun W (hW : Below w1.heap.size w1 W) => ho W (btO hB hW))
  clear ho
  have HOps := Lib.hid pops_any
  have HW1 := Lib.hid (Below.refl w1.heap.size w1)
  show Calls Tryz.prog 51 #[.agg #[.int .i64 day, .slice fA fs.length fc, .slice cA cs.length cc], .agg #[.int .u8 7, .string rr, .string nn, .int .i64 dd, .slice A s.length c]] w _
  clear hin hE hB hS
  obtain ⟨e0, e1, e2, c0, c1, c2, c3, c4⟩ := HG.out _ HW1.out
  go_enter Tryz.func51, Tryz.ntmps51
  go_wp2_with ((go_at_call 90; ((with_reducible refine HF.out.mono ?_); rintro x w2 ⟨rfl, hb⟩; have HW2 := Lib.hid hb; clear hb)))
  clear hw1 e0 e1 e2 c0 c1 c2 c3 c4
  obtain ⟨w5, hw5⟩ : ∃ w5, w2.alloc (.cells #[.string va, .string vb] 125) = w5 := ⟨_, rfl⟩
  have hr := heap_alloc_new w2 (.cells #[.string va, .string vb] 125)
  have HW5 := Lib.hid (btO HW2.out (belO w2 (.cells #[.string va, .string vb] 125)))
  rw [hw5] at hr HW5
  have g0 := row_cell (j := 0) hr rfl
  have g1 := row_cell (j := 1) hr rfl
  obtain ⟨-, -, -, c0, -, -, -, -⟩ := HG.out _ HW5.out
  have kq : keyOf Tryz.prog 5 (.int .u8 7) = some (.int .u8 7) := keyOf_int_mk Tryz.underlying5 (by decide)
  have B5 := Below.drew (Below.refl w5.heap.size w5)
  clear hr
  try rw [hw5]
  clear hw5
  go_region_held3 (fun w' => w'.cell? ⟨w.heap.size + 1, 0, none⟩ = some (.int .u8 7) ∧ w'.cell? ⟨w2.heap.size, 0, none⟩ = some (.string va) ∧ w'.cell? ⟨w2.heap.size, 1, none⟩ = some (.string vb))
    (((try go_split_ands); (and_intros) <;> first | assumption | (go_keep; done)))
    (first
      | (go_split_ands; go_at_call 91; refine (HOps.out _).mono ?_; rintro e w6 ⟨Bm, rfl, om, b6⟩; have B6 := btO B5 b6; have hl := lookF_run 129 5 128 u8K Tryz.underlying129 (zero_ops _) Bm 5 opsD om _ _ kq 131 at_ops7; have i0 := cellO b6 c0; have i1 := cellO b6 g0; have i2 := cellO b6 g1)
      | (go_split_ands; go_at_call 131; refine (HO.out _ (btO HW5.out B6)).mono ?_; rintro e w7 ⟨rfl, b7⟩; have B7 := btO B6 b7; have j0 := cellO b7 i0; have j1 := cellO b7 i1; have j2 := cellO b7 i2))
  all_goals go_wp2_with (fail)
  all_goals go_ret2
  all_goals exact ⟨rfl, btO HB.out (btO HW5.out B7)⟩
set_option maxRecDepth 100000 in
set_option maxHeartbeats 6400000 in
theorem pnum_8 (va vb v : ByteArray) (e : Int) (rr nn : ByteArray) (dd : Int) (A : Option Addr) (c : Nat) (s : List Ex) (E : Ev) (day : Int) (w : World) (hin : Ex.In w (.mk 8 rr nn dd A c s)) (hE : E.Inv w) (hq : ∀ W, Ex.In W (.mk 8 rr nn dd A c s) → E.Inv W → Calls Tryz.prog 90 #[evV day E, Ex.val (.mk 8 rr nn dd A c s)] W (PrE va vb 0 W)) (ho : ∀ W, Below w.heap.size w W → Calls Tryz.prog 132 #[.agg #[.string va, .string vb]] W (StE v e W)) :
    Calls Tryz.prog 51 #[evV day E, Ex.val (.mk 8 rr nn dd A c s)] w (StE v e w) := by
  obtain ⟨fA, fs, fc, cA, cs, cc⟩ := E
  obtain ⟨w1, hw1, hB, hS⟩ := pv_begin w day 8 rr nn dd A s.length c fA fs.length fc cA cs.length cc
  have HB := Lib.hid hB
  have HG := Lib.hid (fun W (hW : Below w1.heap.size w1 W) => hS.below hW)
  have HF : Hid (Calls Tryz.prog 90 #[.agg #[.int .i64 day, .slice fA fs.length fc, .slice cA cs.length cc], .agg #[.int .u8 8, .string rr, .string nn, .int .i64 dd, .slice A s.length c]] w1 (PrE va vb 0 w1)) := hq w1 (hin.below hB) (hE.below hB)
  clear hq
  have HO := Lib.hid (fun W (hW : Below w1.heap.size w1 W) => ho W (btO hB hW))
  clear ho
  have HOps := Lib.hid pops_any
  have HW1 := Lib.hid (Below.refl w1.heap.size w1)
  show Calls Tryz.prog 51 #[.agg #[.int .i64 day, .slice fA fs.length fc, .slice cA cs.length cc], .agg #[.int .u8 8, .string rr, .string nn, .int .i64 dd, .slice A s.length c]] w _
  clear hin hE hB hS
  obtain ⟨e0, e1, e2, c0, c1, c2, c3, c4⟩ := HG.out _ HW1.out
  go_enter Tryz.func51, Tryz.ntmps51
  go_wp2_with ((go_at_call 90; ((with_reducible refine HF.out.mono ?_); rintro x w2 ⟨rfl, hb⟩; have HW2 := Lib.hid hb; clear hb)))
  clear hw1 e0 e1 e2 c0 c1 c2 c3 c4
  obtain ⟨w5, hw5⟩ : ∃ w5, w2.alloc (.cells #[.string va, .string vb] 125) = w5 := ⟨_, rfl⟩
  have hr := heap_alloc_new w2 (.cells #[.string va, .string vb] 125)
  have HW5 := Lib.hid (btO HW2.out (belO w2 (.cells #[.string va, .string vb] 125)))
  rw [hw5] at hr HW5
  have g0 := row_cell (j := 0) hr rfl
  have g1 := row_cell (j := 1) hr rfl
  obtain ⟨-, -, -, c0, -, -, -, -⟩ := HG.out _ HW5.out
  have kq : keyOf Tryz.prog 5 (.int .u8 8) = some (.int .u8 8) := keyOf_int_mk Tryz.underlying5 (by decide)
  have B5 := Below.drew (Below.refl w5.heap.size w5)
  clear hr
  try rw [hw5]
  clear hw5
  go_region_held3 (fun w' => w'.cell? ⟨w.heap.size + 1, 0, none⟩ = some (.int .u8 8) ∧ w'.cell? ⟨w2.heap.size, 0, none⟩ = some (.string va) ∧ w'.cell? ⟨w2.heap.size, 1, none⟩ = some (.string vb))
    (((try go_split_ands); (and_intros) <;> first | assumption | (go_keep; done)))
    (first
      | (go_split_ands; go_at_call 91; refine (HOps.out _).mono ?_; rintro e w6 ⟨Bm, rfl, om, b6⟩; have B6 := btO B5 b6; have hl := lookF_run 129 5 128 u8K Tryz.underlying129 (zero_ops _) Bm 5 opsD om _ _ kq 132 at_ops8; have i0 := cellO b6 c0; have i1 := cellO b6 g0; have i2 := cellO b6 g1)
      | (go_split_ands; go_at_call 132; refine (HO.out _ (btO HW5.out B6)).mono ?_; rintro e w7 ⟨rfl, b7⟩; have B7 := btO B6 b7; have j0 := cellO b7 i0; have j1 := cellO b7 i1; have j2 := cellO b7 i2))
  all_goals go_wp2_with (fail)
  all_goals go_ret2
  all_goals exact ⟨rfl, btO HB.out (btO HW5.out B7)⟩
set_option maxRecDepth 100000 in
set_option maxHeartbeats 6400000 in
theorem ptru_11 (va vb : ByteArray) (v : Bool) (e : Int) (rr nn : ByteArray) (dd : Int) (A : Option Addr) (c : Nat) (s : List Ex) (E : Ev) (day : Int) (w : World) (hin : Ex.In w (.mk 11 rr nn dd A c s)) (hE : E.Inv w) (hq : ∀ W, Ex.In W (.mk 11 rr nn dd A c s) → E.Inv W → Calls Tryz.prog 90 #[evV day E, Ex.val (.mk 11 rr nn dd A c s)] W (PrE va vb 0 W)) (ho : ∀ W, Below w.heap.size w W → Calls Tryz.prog 133 #[.agg #[.string va, .string vb]] W (TrE v e W)) :
    Calls Tryz.prog 52 #[evV day E, Ex.val (.mk 11 rr nn dd A c s)] w (TrE v e w) := by
  obtain ⟨fA, fs, fc, cA, cs, cc⟩ := E
  obtain ⟨w1, hw1, hB, hS⟩ := pv_begin w day 11 rr nn dd A s.length c fA fs.length fc cA cs.length cc
  have HB := Lib.hid hB
  have HG := Lib.hid (fun W (hW : Below w1.heap.size w1 W) => hS.below hW)
  have HF : Hid (Calls Tryz.prog 90 #[.agg #[.int .i64 day, .slice fA fs.length fc, .slice cA cs.length cc], .agg #[.int .u8 11, .string rr, .string nn, .int .i64 dd, .slice A s.length c]] w1 (PrE va vb 0 w1)) := hq w1 (hin.below hB) (hE.below hB)
  clear hq
  have HO := Lib.hid (fun W (hW : Below w1.heap.size w1 W) => ho W (btO hB hW))
  clear ho
  have HOps := Lib.hid pcps_any
  have HW1 := Lib.hid (Below.refl w1.heap.size w1)
  show Calls Tryz.prog 52 #[.agg #[.int .i64 day, .slice fA fs.length fc, .slice cA cs.length cc], .agg #[.int .u8 11, .string rr, .string nn, .int .i64 dd, .slice A s.length c]] w _
  clear hin hE hB hS
  obtain ⟨e0, e1, e2, c0, c1, c2, c3, c4⟩ := HG.out _ HW1.out
  go_enter Tryz.func52, Tryz.ntmps52
  go_wp2_with ((go_at_call 90; ((with_reducible refine HF.out.mono ?_); rintro x w2 ⟨rfl, hb⟩; have HW2 := Lib.hid hb; clear hb)))
  clear hw1 e0 e1 e2 c0 c1 c2 c3 c4
  obtain ⟨w5, hw5⟩ : ∃ w5, w2.alloc (.cells #[.string va, .string vb] 125) = w5 := ⟨_, rfl⟩
  have hr := heap_alloc_new w2 (.cells #[.string va, .string vb] 125)
  have HW5 := Lib.hid (btO HW2.out (belO w2 (.cells #[.string va, .string vb] 125)))
  rw [hw5] at hr HW5
  have g0 := row_cell (j := 0) hr rfl
  have g1 := row_cell (j := 1) hr rfl
  obtain ⟨-, -, -, c0, -, -, -, -⟩ := HG.out _ HW5.out
  have kq : keyOf Tryz.prog 5 (.int .u8 11) = some (.int .u8 11) := keyOf_int_mk Tryz.underlying5 (by decide)
  have B5 := Below.drew (Below.refl w5.heap.size w5)
  clear hr
  try rw [hw5]
  clear hw5
  go_region_held3 (fun w' => w'.cell? ⟨w.heap.size + 1, 0, none⟩ = some (.int .u8 11) ∧ w'.cell? ⟨w2.heap.size, 0, none⟩ = some (.string va) ∧ w'.cell? ⟨w2.heap.size, 1, none⟩ = some (.string vb))
    (((try go_split_ands); (and_intros) <;> first | assumption | (go_keep; done)))
    (first
      | (go_split_ands; go_at_call 95; refine (HOps.out _).mono ?_; rintro e w6 ⟨Bm, rfl, om, b6⟩; have B6 := btO B5 b6; have hl := lookF_run 132 5 131 u8K Tryz.underlying132 (zero_cps _) Bm 2 cpsD om _ _ kq 133 at_cps11; have i0 := cellO b6 c0; have i1 := cellO b6 g0; have i2 := cellO b6 g1)
      | (go_split_ands; go_at_call 133; refine (HO.out _ (btO HW5.out B6)).mono ?_; rintro e w7 ⟨rfl, b7⟩; have B7 := btO B6 b7; have j0 := cellO b7 i0; have j1 := cellO b7 i1; have j2 := cellO b7 i2))
  all_goals go_wp2_with (fail)
  all_goals go_ret2
  all_goals exact ⟨rfl, btO HB.out (btO HW5.out B7)⟩
set_option maxRecDepth 100000 in
set_option maxHeartbeats 6400000 in
theorem ptru_12 (va vb : ByteArray) (v : Bool) (e : Int) (rr nn : ByteArray) (dd : Int) (A : Option Addr) (c : Nat) (s : List Ex) (E : Ev) (day : Int) (w : World) (hin : Ex.In w (.mk 12 rr nn dd A c s)) (hE : E.Inv w) (hq : ∀ W, Ex.In W (.mk 12 rr nn dd A c s) → E.Inv W → Calls Tryz.prog 90 #[evV day E, Ex.val (.mk 12 rr nn dd A c s)] W (PrE va vb 0 W)) (ho : ∀ W, Below w.heap.size w W → Calls Tryz.prog 134 #[.agg #[.string va, .string vb]] W (TrE v e W)) :
    Calls Tryz.prog 52 #[evV day E, Ex.val (.mk 12 rr nn dd A c s)] w (TrE v e w) := by
  obtain ⟨fA, fs, fc, cA, cs, cc⟩ := E
  obtain ⟨w1, hw1, hB, hS⟩ := pv_begin w day 12 rr nn dd A s.length c fA fs.length fc cA cs.length cc
  have HB := Lib.hid hB
  have HG := Lib.hid (fun W (hW : Below w1.heap.size w1 W) => hS.below hW)
  have HF : Hid (Calls Tryz.prog 90 #[.agg #[.int .i64 day, .slice fA fs.length fc, .slice cA cs.length cc], .agg #[.int .u8 12, .string rr, .string nn, .int .i64 dd, .slice A s.length c]] w1 (PrE va vb 0 w1)) := hq w1 (hin.below hB) (hE.below hB)
  clear hq
  have HO := Lib.hid (fun W (hW : Below w1.heap.size w1 W) => ho W (btO hB hW))
  clear ho
  have HOps := Lib.hid pcps_any
  have HW1 := Lib.hid (Below.refl w1.heap.size w1)
  show Calls Tryz.prog 52 #[.agg #[.int .i64 day, .slice fA fs.length fc, .slice cA cs.length cc], .agg #[.int .u8 12, .string rr, .string nn, .int .i64 dd, .slice A s.length c]] w _
  clear hin hE hB hS
  obtain ⟨e0, e1, e2, c0, c1, c2, c3, c4⟩ := HG.out _ HW1.out
  go_enter Tryz.func52, Tryz.ntmps52
  go_wp2_with ((go_at_call 90; ((with_reducible refine HF.out.mono ?_); rintro x w2 ⟨rfl, hb⟩; have HW2 := Lib.hid hb; clear hb)))
  clear hw1 e0 e1 e2 c0 c1 c2 c3 c4
  obtain ⟨w5, hw5⟩ : ∃ w5, w2.alloc (.cells #[.string va, .string vb] 125) = w5 := ⟨_, rfl⟩
  have hr := heap_alloc_new w2 (.cells #[.string va, .string vb] 125)
  have HW5 := Lib.hid (btO HW2.out (belO w2 (.cells #[.string va, .string vb] 125)))
  rw [hw5] at hr HW5
  have g0 := row_cell (j := 0) hr rfl
  have g1 := row_cell (j := 1) hr rfl
  obtain ⟨-, -, -, c0, -, -, -, -⟩ := HG.out _ HW5.out
  have kq : keyOf Tryz.prog 5 (.int .u8 12) = some (.int .u8 12) := keyOf_int_mk Tryz.underlying5 (by decide)
  have B5 := Below.drew (Below.refl w5.heap.size w5)
  clear hr
  try rw [hw5]
  clear hw5
  go_region_held3 (fun w' => w'.cell? ⟨w.heap.size + 1, 0, none⟩ = some (.int .u8 12) ∧ w'.cell? ⟨w2.heap.size, 0, none⟩ = some (.string va) ∧ w'.cell? ⟨w2.heap.size, 1, none⟩ = some (.string vb))
    (((try go_split_ands); (and_intros) <;> first | assumption | (go_keep; done)))
    (first
      | (go_split_ands; go_at_call 95; refine (HOps.out _).mono ?_; rintro e w6 ⟨Bm, rfl, om, b6⟩; have B6 := btO B5 b6; have hl := lookF_run 132 5 131 u8K Tryz.underlying132 (zero_cps _) Bm 2 cpsD om _ _ kq 134 at_cps12; have i0 := cellO b6 c0; have i1 := cellO b6 g0; have i2 := cellO b6 g1)
      | (go_split_ands; go_at_call 134; refine (HO.out _ (btO HW5.out B6)).mono ?_; rintro e w7 ⟨rfl, b7⟩; have B7 := btO B6 b7; have j0 := cellO b7 i0; have j1 := cellO b7 i1; have j2 := cellO b7 i2))
  all_goals go_wp2_with (fail)
  all_goals go_ret2
  all_goals exact ⟨rfl, btO HB.out (btO HW5.out B7)⟩
end Go.Proofs.YtnomccgdajcfiaaGreatDoor
/- Layer 8: the program's evaluation. -/
namespace Go.Proofs.YtnomccgdajcfiaaGreatDoor
open Go Go.RowKit
theorem ne_decO2 {e : Int} (h : ¬ e = 0) : (e == 0) = false := beq_eq_false_iff_ne.2 h
theorem pop_any (k : Int) (hk : k = 4 ∨ k = 5 ∨ k = 6 ∨ k = 7 ∨ k = 8) (rr nn : ByteArray) (dd : Int) (A : Option Addr) (c : Nat) (x y : Ex) (E : Ev) (day : Int) (w : World) (hin : Ex.In w (.mk k rr nn dd A c [x, y])) (hE : E.Inv w) (X Y : NR)
    (hX : X.1.size ≤ 1048576) (hY : Y.1.size ≤ 1048576)
    (hx : ∀ W, x.In W → E.Inv W → Calls Tryz.prog 51 #[evV day E, x.val] W (StE X.1 X.2 W))
    (hy : ∀ W, y.In W → E.Inv W → Calls Tryz.prog 51 #[evV day E, y.val] W (StE Y.1 Y.2 W)) :
    Calls Tryz.prog 51 #[evV day E, Ex.val (.mk k rr nn dd A c [x, y])] w (StE (opR k X Y).1 (opR k X Y).2 w) := by
  obtain ⟨va, ea⟩ := X
  obtain ⟨vb, eb⟩ := Y
  have k1 : (k == 1) = false := by rw [beq_eq_false_iff_ne]; omega
  have k2 : (k == 2) = false := by rw [beq_eq_false_iff_ne]; omega
  have k3 : (k == 3) = false := by rw [beq_eq_false_iff_ne]; omega
  have k9 : (k == 9) = false := by rw [beq_eq_false_iff_ne]; omega
  unfold opR
  by_cases h1 : ea = 0
  · subst h1
    rw [if_neg (by simp)]
    by_cases h2 : eb = 0
    · subst h2
      rw [if_neg (by simp)]
      have hq : ∀ W, Ex.In W (.mk k rr nn dd A c [x, y]) → E.Inv W → Calls Tryz.prog 90 #[evV day E, Ex.val (.mk k rr nn dd A c [x, y])] W (PrE va vb 0 W) := fun W i1 i2 => ppair_ok k va vb rr nn dd A c x y E day W i1 i2 hx hy
      have e := opN_err k va vb
      clear k1 k2 k3 k9
      rcases hk with rfl | rfl | rfl | rfl | rfl
      · exact pnum_4 va vb _ _ rr nn dd A c [x, y] E day w hin hE hq (fun W hW => pp_sum va vb _ _ W (fun V hV => radd_any va vb hX hY V ((hE.below hW).below hV).v))
      · exact pnum_5 va vb _ _ rr nn dd A c [x, y] E day w hin hE hq (fun W hW => pp_difference va vb _ _ W (fun V hV => rsub_any va vb hX hY V ((hE.below hW).below hV).v))
      · exact pnum_6 va vb _ _ rr nn dd A c [x, y] E day w hin hE hq (fun W hW => pp_product va vb _ _ W (fun V hV => rmul_any va vb hX hY V ((hE.below hW).below hV).v))
      all_goals clear e
      all_goals have ho := fun W (hW : VarR W) => rcompare_any va vb hX hY W hW
      · refine pnum_7 va vb _ _ rr nn dd A c [x, y] E day w hin hE hq (fun W hW => ?_)
        have ho := fun V (hV : Below W.heap.size W V) => ho V ((hE.below hW).below hV).v
        by_cases h : twC comC va.data.toList vb.data.toList = 0
        · by_cases hr : twK va.data.toList vb.data.toList < 0
          · have q : opN 7 va vb = (vb, 0) := by unfold opN; rw [if_neg (by decide), if_neg (by decide), if_neg (by decide), if_pos h, if_pos (.inl ⟨rfl, hr⟩)]
            rw [q]
            simp only [h] at ho
            exact pp_greater_b va vb _ W (decide_eq_true hr) ho
          · have q : opN 7 va vb = (va, 0) := by unfold opN; rw [if_neg (by decide), if_neg (by decide), if_neg (by decide), if_pos h, if_neg (by rintro (⟨-, g⟩ | ⟨g, -⟩) <;> first | exact hr g | exact absurd g (by decide))]
            rw [q]
            simp only [h] at ho
            exact pp_greater_a va vb _ W (decide_eq_false hr) ho
        · have q : opN 7 va vb = (⟨#[]⟩, twC comC va.data.toList vb.data.toList) := by unfold opN; rw [if_neg (by decide), if_neg (by decide), if_neg (by decide), if_neg h]
          rw [q]
          exact pp_greater_e va vb _ _ W (ne_decO h) ho
      · refine pnum_8 va vb _ _ rr nn dd A c [x, y] E day w hin hE hq (fun W hW => ?_)
        have ho := fun V (hV : Below W.heap.size W V) => ho V ((hE.below hW).below hV).v
        by_cases h : twC comC va.data.toList vb.data.toList = 0
        · by_cases hr : 0 < twK va.data.toList vb.data.toList
          · have q : opN 8 va vb = (vb, 0) := by unfold opN; rw [if_neg (by decide), if_neg (by decide), if_neg (by decide), if_pos h, if_pos (.inr ⟨rfl, hr⟩)]
            rw [q]
            simp only [h] at ho
            exact pp_smaller_b va vb _ W (decide_eq_true hr) ho
          · have q : opN 8 va vb = (va, 0) := by unfold opN; rw [if_neg (by decide), if_neg (by decide), if_neg (by decide), if_pos h, if_neg (by rintro (⟨g, -⟩ | ⟨-, g⟩) <;> first | exact hr g | exact absurd g (by decide))]
            rw [q]
            simp only [h] at ho
            exact pp_smaller_a va vb _ W (decide_eq_false hr) ho
        · have q : opN 8 va vb = (⟨#[]⟩, twC comC va.data.toList vb.data.toList) := by unfold opN; rw [if_neg (by decide), if_neg (by decide), if_neg (by decide), if_neg h]
          rw [q]
          exact pp_smaller_e va vb _ _ W (ne_decO h) ho
    · rw [if_pos h2]
      exact pnum_e k k1 k2 k3 k9 _ _ eb rr nn dd A c [x, y] E day w hin hE (fun W i1 i2 => ppair_e2 k va vb eb rr nn dd A c x y E day W i1 i2 hx hy (ne_decO h2)) (ne_decO h2)
  · rw [if_pos h1]
    exact pnum_e k k1 k2 k3 k9 _ _ ea rr nn dd A c [x, y] E day w hin hE (fun W i1 i2 => ppair_e1 k va ea rr nn dd A c x y E day W i1 i2 hx (ne_decO h1)) (ne_decO h1)
theorem pcp_any (k : Int) (hk : k = 11 ∨ k = 12) (rr nn : ByteArray) (dd : Int) (A : Option Addr) (c : Nat) (x y : Ex) (E : Ev) (day : Int) (w : World) (hin : Ex.In w (.mk k rr nn dd A c [x, y])) (hE : E.Inv w) (X Y : NR)
    (hX : X.1.size ≤ 1048576) (hY : Y.1.size ≤ 1048576)
    (hx : ∀ W, x.In W → E.Inv W → Calls Tryz.prog 51 #[evV day E, x.val] W (StE X.1 X.2 W))
    (hy : ∀ W, y.In W → E.Inv W → Calls Tryz.prog 51 #[evV day E, y.val] W (StE Y.1 Y.2 W)) :
    Calls Tryz.prog 52 #[evV day E, Ex.val (.mk k rr nn dd A c [x, y])] w (TrE (cpR k X Y).1 (cpR k X Y).2 w) := by
  obtain ⟨va, ea⟩ := X
  obtain ⟨vb, eb⟩ := Y
  have k1 : (k == 13) = false := by rw [beq_eq_false_iff_ne]; omega
  have k2 : (k == 14) = false := by rw [beq_eq_false_iff_ne]; omega
  have k3 : (k == 15) = false := by rw [beq_eq_false_iff_ne]; omega
  unfold cpR
  by_cases h1 : ea = 0
  · subst h1
    rw [if_neg (by simp)]
    by_cases h2 : eb = 0
    · subst h2
      rw [if_neg (by simp)]
      have hq : ∀ W, Ex.In W (.mk k rr nn dd A c [x, y]) → E.Inv W → Calls Tryz.prog 90 #[evV day E, Ex.val (.mk k rr nn dd A c [x, y])] W (PrE va vb 0 W) := fun W i1 i2 => ppair_ok k va vb rr nn dd A c x y E day W i1 i2 hx hy
      have ho := fun W (hW : VarR W) => rcompare_any va vb hX hY W hW
      unfold cpT
      simp only
      clear k1 k2 k3
      generalize twK va.data.toList vb.data.toList = K at *
      generalize twC comC va.data.toList vb.data.toList = e at *
      rcases hk with rfl | rfl
      · refine ptru_11 va vb _ _ rr nn dd A c [x, y] E day w hin hE hq (fun W hW => ?_)
        have ho := fun V (hV : Below W.heap.size W V) => ho V ((hE.below hW).below hV).v
        by_cases h : e = 0
        · subst h
          rw [if_pos rfl]
          by_cases hr : K < 0
          · rw [decide_eq_true (.inl ⟨rfl, hr⟩)]
            exact pp_less_t va vb _ W (decide_eq_true hr) ho
          · rw [decide_eq_false (by rintro (⟨-, g⟩ | ⟨g, -⟩) <;> first | exact hr g | exact absurd g (by decide))]
            exact pp_less_f va vb _ W (decide_eq_false hr) ho
        · rw [if_neg h]
          exact pp_less_e va vb _ _ W (ne_decO2 h) ho
      · refine ptru_12 va vb _ _ rr nn dd A c [x, y] E day w hin hE hq (fun W hW => ?_)
        have ho := fun V (hV : Below W.heap.size W V) => ho V ((hE.below hW).below hV).v
        by_cases h : e = 0
        · subst h
          rw [if_pos rfl]
          by_cases hr : K = 0
          · rw [decide_eq_true (.inr ⟨rfl, hr⟩)]
            exact pp_equal_t va vb _ W (by simp [hr]) ho
          · rw [decide_eq_false (by rintro (⟨g, -⟩ | ⟨-, g⟩) <;> first | exact hr g | exact absurd g (by decide))]
            exact pp_equal_f va vb _ W (by simp [hr]) ho
        · rw [if_neg h]
          exact pp_equal_e va vb _ _ W (ne_decO2 h) ho
    · rw [if_pos h2]
      exact ptru_e k k1 k2 k3 _ _ eb rr nn dd A c [x, y] E day w hin hE (fun W i1 i2 => ppair_e2 k va vb eb rr nn dd A c x y E day W i1 i2 hx hy (ne_decO h2)) (ne_decO h2)
  · rw [if_pos h1]
    exact ptru_e k k1 k2 k3 _ _ ea rr nn dd A c [x, y] E day w hin hE (fun W i1 i2 => ppair_e1 k va ea rr nn dd A c x y E day W i1 i2 hx (ne_decO h1)) (ne_decO h1)
theorem cpT_err (k : Int) (a b : ByteArray) (h : (cpT k a b).2 ≠ 0) : (cpT k a b).1 = false := by
  unfold cpT at h ⊢
  split
  · next g => rw [if_pos g] at h; exact absurd rfl h
  · rfl
theorem evT_err (k : Int) (l : List (NR × TR)) (ih : ∀ i, ((l.getD i zNT).2.2 ≠ 0 → (l.getD i zNT).2.1 = false)) (h : (evT k l).2 ≠ 0) : (evT k l).1 = false := by
  unfold evT at h ⊢
  split at h
  · next g =>
    rw [if_pos g]
    unfold ntR at h ⊢
    split at h
    · next g => rw [if_pos g]
    · exact absurd rfl h
  next g1 =>
  rw [if_neg g1]
  split at h
  · next g =>
    rw [if_pos g]
    unfold anR at h ⊢
    split at h
    · next g => rw [if_pos g]
    next g2 =>
    rw [if_neg g2]
    split at h
    · exact absurd rfl h
    next g3 =>
    rw [if_neg g3]
    exact ih 1 h
  next g2 =>
  rw [if_neg g2]
  unfold cpR at h ⊢
  split at h
  · next g => rw [if_pos g]
  next g3 =>
  rw [if_neg g3]
  split at h
  · next g => rw [if_pos g]
  next g4 =>
  rw [if_neg g4]
  exact cpT_err _ _ _ h
theorem Ex.ev_tru_err (fs : List Fx) (day : Int) (t : Ex) (h : (t.ev fs day).2.2 ≠ 0) : (t.ev fs day).2.1 = false := by
  induction t using Ex.ind with
  | h k r n d A c s ih =>
  rw [Ex.ev_mk] at h ⊢
  refine evT_err k _ (fun i hi => ?_) h
  rw [List.getD_eq_getElem?_getD, List.getElem?_map] at hi ⊢
  rcases Nat.lt_or_ge i s.length with g | g
  · rw [List.getElem?_eq_getElem g] at hi ⊢
    exact ih _ (List.getElem_mem g) hi
  · rw [List.getElem?_eq_none g] at hi; exact absurd rfl hi
theorem peval_any (E : Ev) (day : Int) (hsf : ∀ f ∈ E.fs, f.2.2.size ≤ 1048576) (T : Ex) : ∀ (w : World), T.In w → E.Inv w → T.byt ≤ 12000 →
    (T.srt = 1 → Calls Tryz.prog 51 #[evV day E, T.val] w (StE (T.ev E.fs day).1.1 (T.ev E.fs day).1.2 w)) ∧
    (T.srt = 2 → Calls Tryz.prog 52 #[evV day E, T.val] w (TrE (T.ev E.fs day).2.1 (T.ev E.fs day).2.2 w)) := by
  induction T using Ex.ind with
  | h k rr nn dd A c s ih =>
  intro w hin hE hby
  have hb : ∀ t ∈ s, t.byt ≤ 12000 := fun t ht => Nat.le_trans (Ex.byt_sub (k := k) (r := rr) (n := nn) (d := dd) (A := A) (c := c) ht) hby
  have hz : ∀ t ∈ s, (t.ev E.fs day).1.1.size ≤ 1048576 := fun t ht => Ex.ev_size hsf day t (hb t ht)
  have hN : ∀ t ∈ s, t.srt = 1 → ∀ W, t.In W → E.Inv W → Calls Tryz.prog 51 #[evV day E, t.val] W (StE (t.ev E.fs day).1.1 (t.ev E.fs day).1.2 W) := fun t ht h1 W h2 h3 => (ih t ht W h2 h3 (hb t ht)).1 h1
  have hT : ∀ t ∈ s, t.srt = 2 → ∀ W, t.In W → E.Inv W → Calls Tryz.prog 52 #[evV day E, t.val] W (TrE (t.ev E.fs day).2.1 (t.ev E.fs day).2.2 W) := fun t ht h1 W h2 h3 => (ih t ht W h2 h3 (hb t ht)).2 h1
  clear ih hby hb
  constructor
  · intro hs
    rcases srt_num hs with ⟨h, rfl⟩ | ⟨h, x, y, rfl, s1, s2⟩ | ⟨rfl, x, y, z, rfl, s1, s2, s3⟩
    · rcases h with rfl | rfl | rfl
      · rw [ev_1]; exact pnum_1 rr nn dd A c [] E day w hE
      · rw [ev_2]; exact pnum_2 rr nn dd A c [] E day w hE
      · rw [ev_3]; exact pnum_3 rr nn dd A c [] E day w hE
    · rw [ev_op _ _ _ _ _ _ _ (by omega) (by omega)]
      exact pop_any k h rr nn dd A c x y E day w hin hE _ _ (hz x (by simp)) (hz y (by simp)) (hN x (by simp) s1) (hN y (by simp) s2)
    · rw [ev_9]
      have hx := hT x (by simp) s1
      have hy := hN y (by simp) s2
      have hq := hN z (by simp) s3
      generalize (x.ev E.fs day).2 = p at *
      obtain ⟨ba, ea⟩ := p
      unfold whR
      by_cases h1 : ea = 0
      · subst h1
        rw [if_neg (by simp)]
        cases ba
        · rw [if_neg (by simp)]
          exact pnum_9 _ _ rr nn dd A c [x, y, z] E day w hin hE (fun W i1 i2 => pcho_f _ _ rr nn dd A c x y z E day W i1 i2 hx hq)
        · rw [if_pos rfl]
          exact pnum_9 _ _ rr nn dd A c [x, y, z] E day w hin hE (fun W i1 i2 => pcho_t _ _ rr nn dd A c x y z E day W i1 i2 hx hy)
      · rw [if_pos h1]
        exact pnum_9 _ _ rr nn dd A c [x, y, z] E day w hin hE (fun W i1 i2 => pcho_e ba ea rr nn dd A c x y z E day W i1 i2 hx (ne_decO h1))
  · intro hs
    rcases srt_tru hs with ⟨h, x, y, rfl, s1, s2⟩ | ⟨h, x, y, rfl, s1, s2⟩ | ⟨rfl, x, rfl, s1⟩
    · rw [ev_cp _ _ _ _ _ _ _ (by omega) (by omega)]
      exact pcp_any k h rr nn dd A c x y E day w hin hE _ _ (hz x (by simp)) (hz y (by simp)) (hN x (by simp) s1) (hN y (by simp) s2)
    · rw [ev_an _ _ _ _ _ _ _ (by omega) (by omega)]
      have hx := hT x (by simp) s1
      have hy := hT y (by simp) s2
      have he := Ex.ev_tru_err E.fs day x
      generalize (x.ev E.fs day).2 = p at *
      generalize (y.ev E.fs day).2 = q at *
      obtain ⟨ba, ea⟩ := p
      obtain ⟨bb, eb⟩ := q
      unfold anR
      by_cases h1 : ea = 0
      · subst h1
        rw [if_neg (by simp)]
        rcases h with rfl | rfl <;> cases ba
        · exact ptru_13 _ _ rr nn dd A c [x, y] E day w hin hE (fun W i1 i2 => pboth_s rr nn dd A c x y E day W i1 i2 hx)
        · exact ptru_13 _ _ rr nn dd A c [x, y] E day w hin hE (fun W i1 i2 => pboth_l _ _ rr nn dd A c x y E day W i1 i2 hx hy)
        · exact ptru_14 _ _ rr nn dd A c [x, y] E day w hin hE (fun W i1 i2 => peith_l _ _ rr nn dd A c x y E day W i1 i2 hx hy)
        · exact ptru_14 _ _ rr nn dd A c [x, y] E day w hin hE (fun W i1 i2 => peith_s rr nn dd A c x y E day W i1 i2 hx)
      · rw [if_pos h1]
        obtain rfl : ba = false := he h1
        rcases h with rfl | rfl
        · exact ptru_13 _ _ rr nn dd A c [x, y] E day w hin hE (fun W i1 i2 => pboth_e ea rr nn dd A c x y E day W i1 i2 hx (ne_decO h1))
        · exact ptru_14 _ _ rr nn dd A c [x, y] E day w hin hE (fun W i1 i2 => peith_e ea rr nn dd A c x y E day W i1 i2 hx (ne_decO h1))
    · rw [ev_nt]
      have hx := hT x (by simp) s1
      generalize (x.ev E.fs day).2 = p at *
      obtain ⟨ba, ea⟩ := p
      unfold ntR
      by_cases h1 : ea = 0
      · subst h1
        rw [if_neg (by simp)]
        exact ptru_15 _ _ rr nn dd A c [x] E day w hin hE (fun W i1 i2 => pnot_o ba rr nn dd A c x E day W i1 i2 hx)
      · rw [if_pos h1]
        exact ptru_15 _ _ rr nn dd A c [x] E day w hin hE (fun W i1 i2 => pnot_e ba ea rr nn dd A c x E day W i1 i2 hx (ne_decO2 h1))
end Go.Proofs.YtnomccgdajcfiaaGreatDoor
/- Layer 8: asked, Value, Holds of the reference; checkEvaluation, Value, Holds of the program: a theorem for each way. -/
namespace Go.Proofs.YtnomccgdajcfiaaGreatDoor
open Go Go.RowKit Go.BigFrame
set_option maxRecDepth 100000 in
set_option maxHeartbeats 12800000 in
theorem chkev_all (s kc sr ec R : Int) (bd : Bool) (T : Ex) (E : Ev) (day : Int) (w : World) (hin : T.In w) (hE : E.Inv w) (hc : ∀ W, T.In W → E.Inv W → Calls Tryz.prog 13 #[T.val] W (fun e w' => e = .returned (.int .i64 kc) ∧ Below W.heap.size W w')) (hs : ∀ W, T.In W → E.Inv W → Calls Tryz.prog 49 #[T.val] W (fun e w' => e = .returned (.int .u8 sr) ∧ Below W.heap.size W w')) (he : ∀ W, T.In W → E.Inv W → Calls Tryz.prog 22 #[E.val] W (fun e w' => e = .returned (.int .i64 ec) ∧ Below W.heap.size W w')) (hd : ∀ W, T.In W → E.Inv W → Calls Tryz.prog 87 #[.int .i64 day] W (fun e w' => e = .returned (.bool bd) ∧ Below W.heap.size W w')) (key : ((kc != 0) = true ∧ R = kc) ∨ (kc = 0 ∧ (sr != s) = true ∧ R = 32) ∨ (kc = 0 ∧ (sr != s) = false ∧ (ec != 0) = true ∧ R = ec) ∨ (kc = 0 ∧ (sr != s) = false ∧ ec = 0 ∧ bd = false ∧ R = 2) ∨ (kc = 0 ∧ (sr != s) = false ∧ ec = 0 ∧ bd = true ∧ R = 0)) :
    Calls Tryz.prog 50 #[T.val, .int .u8 s, .int .i64 day, E.val] w (IntRO R w) := by
  obtain ⟨fA, fs, fc, cA, cs, cc⟩ := E
  obtain ⟨w1, hw1, hB, hS⟩ := rv_begin w T.k T.r T.n T.d T.A T.sub.length T.c fA fs.length fc cA cs.length cc
  have HB := Lib.hid hB
  have HG := Lib.hid (fun W (hW : Below w1.heap.size w1 W) => hS.below hW)
  have Hc := Lib.hid (fun W (hW : Below w1.heap.size w1 W) => hc W (hin.below (btO hB hW)) (hE.below (btO hB hW)))
  have Hs := Lib.hid (fun W (hW : Below w1.heap.size w1 W) => hs W (hin.below (btO hB hW)) (hE.below (btO hB hW)))
  have He := Lib.hid (fun W (hW : Below w1.heap.size w1 W) => he W (hin.below (btO hB hW)) (hE.below (btO hB hW)))
  have Hd := Lib.hid (fun W (hW : Below w1.heap.size w1 W) => hd W (hin.below (btO hB hW)) (hE.below (btO hB hW)))
  have HW1 := Lib.hid (Below.refl w1.heap.size w1)
  show Calls Tryz.prog 50 #[.agg #[.int .u8 T.k, .string T.r, .string T.n, .int .i64 T.d, .slice T.A T.sub.length T.c], .int .u8 s, .int .i64 day, .agg #[.slice fA fs.length fc, .slice cA cs.length cc]] w _
  clear hin hE hB hS hc hs he hd
  obtain ⟨c0, c1, c2, c3, c4, e0, e1⟩ := HG.out _ HW1.out
  rcases key with ⟨q1, rfl⟩ | ⟨rfl, q2, rfl⟩ | ⟨rfl, q2, q3, rfl⟩ | ⟨rfl, q2, rfl, rfl, rfl⟩ | ⟨rfl, q2, rfl, rfl, rfl⟩
  all_goals go_enter Tryz.func50, Tryz.ntmps50
  all_goals go_wp2_with (first
    | (go_at_call 87; have _t := HW4; ((with_reducible refine (Hd.out _ HW4.out).mono ?_); rintro x w5 ⟨rfl, hb⟩; have HW5 := Lib.hid (btO HW4.out hb); obtain ⟨c0, c1, c2, c3, c4, e0, e1⟩ := HG.out _ HW5.out; clear hb))
    | (go_at_call 22; have _t := HW3; ((with_reducible refine (He.out _ HW3.out).mono ?_); rintro x w4 ⟨rfl, hb⟩; have HW4 := Lib.hid (btO HW3.out hb); obtain ⟨c0, c1, c2, c3, c4, e0, e1⟩ := HG.out _ HW4.out; clear hb))
    | (go_at_call 49; have _t := HW2; ((with_reducible refine (Hs.out _ HW2.out).mono ?_); rintro x w3 ⟨rfl, hb⟩; have HW3 := Lib.hid (btO HW2.out hb); obtain ⟨c0, c1, c2, c3, c4, e0, e1⟩ := HG.out _ HW3.out; clear hb))
    | (go_at_call 13; have _t := HW1; ((with_reducible refine (Hc.out _ HW1.out).mono ?_); rintro x w2 ⟨rfl, hb⟩; have HW2 := Lib.hid (btO HW1.out hb); obtain ⟨c0, c1, c2, c3, c4, e0, e1⟩ := HG.out _ HW2.out; clear hb)))
  all_goals go_ret
  all_goals exact ⟨rfl, btO HB.out (by first | exact HW5.out | exact HW4.out | exact HW3.out | exact HW2.out)⟩
set_option maxRecDepth 100000 in
set_option maxHeartbeats 12800000 in
theorem pvalue_all (V : ByteArray) (ea F : Int) (T : Ex) (E : Ev) (day : Int) (w : World) (hin : T.In w) (hE : E.Inv w) (ha : ∀ W, T.In W → E.Inv W → Calls Tryz.prog 50 #[T.val, .int .u8 1, .int .i64 day, E.val] W (fun e w' => e = .returned (.int .i64 ea) ∧ Below W.heap.size W w')) (key : ((ea != 0) = true ∧ V = ⟨#[]⟩ ∧ F = ea)) :
    Calls Tryz.prog 17 #[T.val, .int .i64 day, E.val] w (StE V F w) := by
  obtain ⟨fA, fs, fc, cA, cs, cc⟩ := E
  obtain ⟨w1, hw1, hB, hS⟩ := rv_begin w T.k T.r T.n T.d T.A T.sub.length T.c fA fs.length fc cA cs.length cc
  have HB := Lib.hid hB
  have HG := Lib.hid (fun W (hW : Below w1.heap.size w1 W) => hS.below hW)
  have Ha := Lib.hid (fun W (hW : Below w1.heap.size w1 W) => ha W (hin.below (btO hB hW)) (hE.below (btO hB hW)))
  have HW1 := Lib.hid (Below.refl w1.heap.size w1)
  show Calls Tryz.prog 17 #[.agg #[.int .u8 T.k, .string T.r, .string T.n, .int .i64 T.d, .slice T.A T.sub.length T.c], .int .i64 day, .agg #[.slice fA fs.length fc, .slice cA cs.length cc]] w _
  clear hin hE hB hS ha
  obtain ⟨c0, c1, c2, c3, c4, e0, e1⟩ := HG.out _ HW1.out
  obtain ⟨q1, rfl, rfl⟩ := key
  all_goals go_enter Tryz.func17, Tryz.ntmps17
  all_goals go_wp2_with (first
    | (go_at_call 50; have _t := HW1; ((with_reducible refine (Ha.out _ HW1.out).mono ?_); rintro x w2 ⟨rfl, hb⟩; have HW2 := Lib.hid (btO HW1.out hb); obtain ⟨c0, c1, c2, c3, c4, e0, e1⟩ := HG.out _ HW2.out; clear hb)))
  all_goals go_ret2
  all_goals exact ⟨rfl, btO HB.out (by first | exact HW2.out)⟩
set_option maxRecDepth 100000 in
set_option maxHeartbeats 12800000 in
theorem pvalue_o (v : ByteArray) (er : Int) (T : Ex) (E : Ev) (day : Int) (w : World) (hin : T.In w) (hE : E.Inv w) (ha : ∀ W, T.In W → E.Inv W → Calls Tryz.prog 50 #[T.val, .int .u8 1, .int .i64 day, E.val] W (fun e w' => e = .returned (.int .i64 0) ∧ Below W.heap.size W w')) (hv : ∀ W, T.In W → E.Inv W → Calls Tryz.prog 51 #[evV day E, T.val] W (fun e w' => e = .returned (.tuple #[.string v, .int .i64 er]) ∧ Below W.heap.size W w')) (key : (True)) :
    Calls Tryz.prog 17 #[T.val, .int .i64 day, E.val] w (StE v er w) := by
  obtain ⟨fA, fs, fc, cA, cs, cc⟩ := E
  obtain ⟨w1, hw1, hB, hS⟩ := rv_begin w T.k T.r T.n T.d T.A T.sub.length T.c fA fs.length fc cA cs.length cc
  have HB := Lib.hid hB
  have HG := Lib.hid (fun W (hW : Below w1.heap.size w1 W) => hS.below hW)
  have Ha := Lib.hid (fun W (hW : Below w1.heap.size w1 W) => ha W (hin.below (btO hB hW)) (hE.below (btO hB hW)))
  have Hv := Lib.hid (fun W (hW : Below w1.heap.size w1 W) => hv W (hin.below (btO hB hW)) (hE.below (btO hB hW)))
  have HW1 := Lib.hid (Below.refl w1.heap.size w1)
  show Calls Tryz.prog 17 #[.agg #[.int .u8 T.k, .string T.r, .string T.n, .int .i64 T.d, .slice T.A T.sub.length T.c], .int .i64 day, .agg #[.slice fA fs.length fc, .slice cA cs.length cc]] w _
  clear hin hE hB hS ha hv
  obtain ⟨c0, c1, c2, c3, c4, e0, e1⟩ := HG.out _ HW1.out
  clear key
  all_goals go_enter Tryz.func17, Tryz.ntmps17
  all_goals go_wp2_with (first
    | (go_at_call 51; have _t := HW2; ((with_reducible refine (Hv.out _ HW2.out).mono ?_); rintro x w3 ⟨rfl, hb⟩; have HW3 := Lib.hid (btO HW2.out hb); obtain ⟨c0, c1, c2, c3, c4, e0, e1⟩ := HG.out _ HW3.out; clear hb))
    | (go_at_call 50; have _t := HW1; ((with_reducible refine (Ha.out _ HW1.out).mono ?_); rintro x w2 ⟨rfl, hb⟩; have HW2 := Lib.hid (btO HW1.out hb); obtain ⟨c0, c1, c2, c3, c4, e0, e1⟩ := HG.out _ HW2.out; clear hb)))
  all_goals go_ret2
  all_goals exact ⟨rfl, btO HB.out (by first | exact HW3.out | exact HW2.out)⟩
set_option maxRecDepth 100000 in
set_option maxHeartbeats 12800000 in
theorem pholds_all (V : Bool) (ea F : Int) (T : Ex) (E : Ev) (day : Int) (w : World) (hin : T.In w) (hE : E.Inv w) (ha : ∀ W, T.In W → E.Inv W → Calls Tryz.prog 50 #[T.val, .int .u8 2, .int .i64 day, E.val] W (fun e w' => e = .returned (.int .i64 ea) ∧ Below W.heap.size W w')) (key : ((ea != 0) = true ∧ V = false ∧ F = ea)) :
    Calls Tryz.prog 18 #[T.val, .int .i64 day, E.val] w (TrE V F w) := by
  obtain ⟨fA, fs, fc, cA, cs, cc⟩ := E
  obtain ⟨w1, hw1, hB, hS⟩ := rv_begin w T.k T.r T.n T.d T.A T.sub.length T.c fA fs.length fc cA cs.length cc
  have HB := Lib.hid hB
  have HG := Lib.hid (fun W (hW : Below w1.heap.size w1 W) => hS.below hW)
  have Ha := Lib.hid (fun W (hW : Below w1.heap.size w1 W) => ha W (hin.below (btO hB hW)) (hE.below (btO hB hW)))
  have HW1 := Lib.hid (Below.refl w1.heap.size w1)
  show Calls Tryz.prog 18 #[.agg #[.int .u8 T.k, .string T.r, .string T.n, .int .i64 T.d, .slice T.A T.sub.length T.c], .int .i64 day, .agg #[.slice fA fs.length fc, .slice cA cs.length cc]] w _
  clear hin hE hB hS ha
  obtain ⟨c0, c1, c2, c3, c4, e0, e1⟩ := HG.out _ HW1.out
  obtain ⟨q1, rfl, rfl⟩ := key
  all_goals go_enter Tryz.func18, Tryz.ntmps18
  all_goals go_wp2_with (first
    | (go_at_call 50; have _t := HW1; ((with_reducible refine (Ha.out _ HW1.out).mono ?_); rintro x w2 ⟨rfl, hb⟩; have HW2 := Lib.hid (btO HW1.out hb); obtain ⟨c0, c1, c2, c3, c4, e0, e1⟩ := HG.out _ HW2.out; clear hb)))
  all_goals go_ret2
  all_goals exact ⟨rfl, btO HB.out (by first | exact HW2.out)⟩
set_option maxRecDepth 100000 in
set_option maxHeartbeats 12800000 in
theorem pholds_o (v : Bool) (er : Int) (T : Ex) (E : Ev) (day : Int) (w : World) (hin : T.In w) (hE : E.Inv w) (ha : ∀ W, T.In W → E.Inv W → Calls Tryz.prog 50 #[T.val, .int .u8 2, .int .i64 day, E.val] W (fun e w' => e = .returned (.int .i64 0) ∧ Below W.heap.size W w')) (hv : ∀ W, T.In W → E.Inv W → Calls Tryz.prog 52 #[evV day E, T.val] W (fun e w' => e = .returned (.tuple #[.bool v, .int .i64 er]) ∧ Below W.heap.size W w')) (key : (True)) :
    Calls Tryz.prog 18 #[T.val, .int .i64 day, E.val] w (TrE v er w) := by
  obtain ⟨fA, fs, fc, cA, cs, cc⟩ := E
  obtain ⟨w1, hw1, hB, hS⟩ := rv_begin w T.k T.r T.n T.d T.A T.sub.length T.c fA fs.length fc cA cs.length cc
  have HB := Lib.hid hB
  have HG := Lib.hid (fun W (hW : Below w1.heap.size w1 W) => hS.below hW)
  have Ha := Lib.hid (fun W (hW : Below w1.heap.size w1 W) => ha W (hin.below (btO hB hW)) (hE.below (btO hB hW)))
  have Hv := Lib.hid (fun W (hW : Below w1.heap.size w1 W) => hv W (hin.below (btO hB hW)) (hE.below (btO hB hW)))
  have HW1 := Lib.hid (Below.refl w1.heap.size w1)
  show Calls Tryz.prog 18 #[.agg #[.int .u8 T.k, .string T.r, .string T.n, .int .i64 T.d, .slice T.A T.sub.length T.c], .int .i64 day, .agg #[.slice fA fs.length fc, .slice cA cs.length cc]] w _
  clear hin hE hB hS ha hv
  obtain ⟨c0, c1, c2, c3, c4, e0, e1⟩ := HG.out _ HW1.out
  clear key
  all_goals go_enter Tryz.func18, Tryz.ntmps18
  all_goals go_wp2_with (first
    | (go_at_call 52; have _t := HW2; ((with_reducible refine (Hv.out _ HW2.out).mono ?_); rintro x w3 ⟨rfl, hb⟩; have HW3 := Lib.hid (btO HW2.out hb); obtain ⟨c0, c1, c2, c3, c4, e0, e1⟩ := HG.out _ HW3.out; clear hb))
    | (go_at_call 50; have _t := HW1; ((with_reducible refine (Ha.out _ HW1.out).mono ?_); rintro x w2 ⟨rfl, hb⟩; have HW2 := Lib.hid (btO HW1.out hb); obtain ⟨c0, c1, c2, c3, c4, e0, e1⟩ := HG.out _ HW2.out; clear hb)))
  all_goals go_ret2
  all_goals exact ⟨rfl, btO HB.out (by first | exact HW3.out | exact HW2.out)⟩
end Go.Proofs.YtnomccgdajcfiaaGreatDoor
/- Layer 8: Value and Holds, both sides. -/
namespace Go.Proofs.YtnomccgdajcfiaaGreatDoor
open Go Go.RowKit
def askE (t : Ex) (s day : Int) (fs : List Fx) (cs : List Cx) : Int :=
  if t.chk ≠ 0 then t.chk else if srtB t.k ≠ s then 32 else if envE fs cs ≠ 0 then envE fs cs else if dayO day = true then 0 else 2
theorem ne_decS {x s : Int} (h : ¬ x = s) : (x != s) = true := bne_iff_ne.2 h
def valN (t : Ex) (day : Int) (fs : List Fx) (cs : List Cx) : NR := if askE t 1 day fs cs ≠ 0 then (⟨#[]⟩, askE t 1 day fs cs) else (t.ev fs day).1
def hldT (t : Ex) (day : Int) (fs : List Fx) (cs : List Cx) : TR := if askE t 2 day fs cs ≠ 0 then (false, askE t 2 day fs cs) else (t.ev fs day).2
theorem Ex.srt_k {t : Ex} (h : t.chk = 0) : t.srt = srtB t.k := by
  have h1 := ((Ex.chk_zero t).1 h).2
  rcases srtB_01 t.k with h2 | h2 | h2
  · obtain ⟨k, r, n, d, A, c, s⟩ := t
    exfalso
    apply h1
    rw [Ex.srt_mk]
    exact srtF_no (fun g => g.1 h2)
  · rw [h2]; exact (Ex.srt_iff t 1 (.inl rfl)).2 ⟨h2, h1⟩
  · rw [h2]; exact (Ex.srt_iff t 2 (.inr rfl)).2 ⟨h2, h1⟩
theorem askE_zero {t : Ex} {s day : Int} {fs : List Fx} {cs : List Cx} (h : askE t s day fs cs = 0) : t.chk = 0 ∧ srtB t.k = s ∧ envE fs cs = 0 ∧ dayO day = true := by
  unfold askE at h
  split at h
  · next g => exact absurd h g
  next g1 =>
  split at h
  · cases h
  next g2 =>
  split at h
  · next g => exact absurd h g
  next g3 =>
  split at h
  · next g4 => exact ⟨by simpa using g1, by simpa using g2, by simpa using g3, g4⟩
  · cases h
theorem ask_key {t : Ex} (s : Int) {day : Int} {fs : List Fx} {cs : List Cx} (h1 : t.chk = 0) :
    ((t.chk != 0) = true ∧ askE t s day fs cs = t.chk) ∨ (t.chk = 0 ∧ (srtB t.k != s) = true ∧ askE t s day fs cs = 32) ∨ (t.chk = 0 ∧ (srtB t.k != s) = false ∧ (envE fs cs != 0) = true ∧ askE t s day fs cs = envE fs cs) ∨
      (t.chk = 0 ∧ (srtB t.k != s) = false ∧ envE fs cs = 0 ∧ dayO day = false ∧ askE t s day fs cs = 2) ∨ (t.chk = 0 ∧ (srtB t.k != s) = false ∧ envE fs cs = 0 ∧ dayO day = true ∧ askE t s day fs cs = 0) := by
  unfold askE
  rw [if_neg (by simpa using h1)]
  by_cases h2 : srtB t.k = s
  · have q2 : (srtB t.k != s) = false := by rw [bne_eq_false_iff_eq]; exact h2
    rw [if_neg (by simpa using h2)]
    by_cases h3 : envE fs cs = 0
    · rw [if_neg (by simpa using h3)]
      cases h4 : dayO day
      · exact .inr (.inr (.inr (.inl ⟨h1, q2, h3, rfl, rfl⟩)))
      · exact .inr (.inr (.inr (.inr ⟨h1, q2, h3, rfl, rfl⟩)))
    · rw [if_pos h3]
      exact .inr (.inr (.inl ⟨h1, q2, ne_decO h3, rfl⟩))
  · rw [if_pos h2]
    exact .inr (.inl ⟨h1, ne_decS h2, rfl⟩)
section
variable (T : Ex) (E : Ev) (day : Int) (w : World) (hin : T.In w) (hE : E.Inv w) (hz : T.siz ≤ 600) (hby : T.byt ≤ 12000) (hsf : ∀ f ∈ E.fs, f.2.2.size ≤ 1048576)
include hin hE hz hby hsf
theorem chkev_any (s : Int) : Calls Tryz.prog 50 #[T.val, .int .u8 s, .int .i64 day, E.val] w (IntRO (askE T s day E.fs E.cs) w) := by
  have _ := hz
  have hC : ∀ W, T.In W → E.Inv W → Calls Tryz.prog 13 #[T.val] W (IntRO T.chk W) := fun W h h2 => pcheck_anyO T W h hby h2.v
  have hS : ∀ W, T.In W → E.Inv W → Calls Tryz.prog 49 #[T.val] W (fun e w' => e = .returned (.int .u8 (srtB T.k)) ∧ Below W.heap.size W w') := fun W _ _ => sortOf_any T.k T.r T.n T.d T.A T.sub.length T.c W
  have hV : ∀ W, T.In W → E.Inv W → Calls Tryz.prog 22 #[E.val] W (IntRO (envE E.fs E.cs) W) := fun W _ h => pcheckEnv_any E W h.i h.v hsf
  have hD : ∀ W, T.In W → E.Inv W → Calls Tryz.prog 87 #[.int .i64 day] W (fun e w' => e = .returned (.bool (dayO day)) ∧ Below W.heap.size W w') := fun W _ _ => calls_bel (pday_any day W)
  refine chkev_all s _ _ _ _ _ T E day w hin hE hC hS hV hD ?_
  by_cases h1 : T.chk = 0
  · exact ask_key s h1
  · exact .inl ⟨ne_decO h1, by unfold askE; rw [if_pos h1]⟩
theorem pvalue_any : Calls Tryz.prog 17 #[T.val, .int .i64 day, E.val] w (StE (valN T day E.fs E.cs).1 (valN T day E.fs E.cs).2 w) := by
  have hA : ∀ W, T.In W → E.Inv W → Calls Tryz.prog 50 #[T.val, .int .u8 1, .int .i64 day, E.val] W (IntRO (askE T 1 day E.fs E.cs) W) := fun W h1 h2 => chkev_any T E day W h1 h2 hz hby hsf 1
  unfold valN
  by_cases h : askE T 1 day E.fs E.cs = 0
  · rw [if_neg (by simpa using h)]
    simp only [h] at hA
    obtain ⟨g1, g2, -, -⟩ := askE_zero h
    refine pvalue_o _ _ T E day w hin hE hA (fun W h1 h2 => (peval_any E day hsf T W h1 h2 hby).1 ((Ex.srt_k g1).trans g2)) trivial
  · rw [if_pos h]
    exact pvalue_all _ _ _ T E day w hin hE hA ⟨ne_decO h, rfl, rfl⟩
theorem pholds_any : Calls Tryz.prog 18 #[T.val, .int .i64 day, E.val] w (TrE (hldT T day E.fs E.cs).1 (hldT T day E.fs E.cs).2 w) := by
  have hA : ∀ W, T.In W → E.Inv W → Calls Tryz.prog 50 #[T.val, .int .u8 2, .int .i64 day, E.val] W (IntRO (askE T 2 day E.fs E.cs) W) := fun W h1 h2 => chkev_any T E day W h1 h2 hz hby hsf 2
  unfold hldT
  by_cases h : askE T 2 day E.fs E.cs = 0
  · rw [if_neg (by simpa using h)]
    simp only [h] at hA
    obtain ⟨g1, g2, -, -⟩ := askE_zero h
    refine pholds_o _ _ T E day w hin hE hA (fun W h1 h2 => (peval_any E day hsf T W h1 h2 hby).2 ((Ex.srt_k g1).trans g2)) trivial
  · rw [if_pos h]
    exact pholds_all _ _ _ T E day w hin hE hA ⟨ne_decO h, rfl, rfl⟩
end
end Go.Proofs.YtnomccgdajcfiaaGreatDoor

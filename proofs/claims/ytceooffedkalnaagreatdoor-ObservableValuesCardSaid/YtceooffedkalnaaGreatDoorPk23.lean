/- Joined: ObX, ObY, OeB1, OeB2, OeB4, ObB2, OeV. -/
import Derived.Test.YtceooffedkalnaaGreatDoorPk18
import Derived.Test.YtceooffedkalnaaGreatDoorPk22
import Derived.Test.YtceooffedkalnaaGreatDoorPk20
import Derived.Test.YtceooffedkalnaaGreatDoorIntV2
import Derived.Test.YtceooffedkalnaaGreatDoorRatV
import Derived.OwnWalk
import Derived.Laws.OwnMore
import Derived.Laws.AppendOwn
import Derived.Deep.RegionHeld3
import Derived.Deep.RegionLaw
/- Layer 8: lists of structs in rows of the call's own; append to an empty slice. -/
namespace Go.Proofs.YtceooffedkalnaaGreatDoor
open Go Go.RowKit Go.BigFrame
theorem fxC_len (x : Fx) : (fxC x).length = 3 := rfl
theorem cxC_len (x : Cx) : (cxC x).length = 4 := rfl
section
variable {P : Program} {w : World}
end
def CapR (A : Option Addr) (n c : Nat) : Prop := n ≤ c ∧ c ≤ maxLen ∧ (A = none → c = 0)
section
variable {P : Program} {w : World} {α : Type} {enc : α → List Value} {k : Nat}
end
end Go.Proofs.YtceooffedkalnaaGreatDoor
/- Layer 8: TwinEnv. -/
namespace Go.Proofs.YtceooffedkalnaaGreatDoor
open Go Go.RowKit Go.BigFrame
theorem bel2 {a w : World} {R : Nat} {v1 v2 : Value} (h : Below R a w) : Below R a ((w.setCell ⟨R, 0, none⟩ v1).setCell ⟨R, 1, none⟩ v2) := (h.setCell (p := ⟨R, 0, none⟩) (Nat.le_refl _) _).setCell (p := ⟨R, 1, none⟩) (Nat.le_refl _) _
section
variable {q R : Nat} {x0 x1 : Value} {w2 w' w'' : World}
end
end Go.Proofs.YtceooffedkalnaaGreatDoor
/- Layer 8: Valued of the reference, on each way. -/
namespace Go.Proofs.YtceooffedkalnaaGreatDoor
open Go Go.RowKit Go.BigFrame
set_option maxRecDepth 100000 in
set_option maxHeartbeats 6400000 in
theorem rval_1 (rr nn : ByteArray) (dd : Int) (A : Option Addr) (c : Nat) (E : Ev) (day : Int) (w : World) (hE : E.In w) :
    Calls Tryz.prog 75 #[Ex.val (.mk 1 rr nn dd A c []), .int .i64 day, E.val] w (StE rr 0 w) := by
  obtain ⟨fA, fs, fc, cA, cs, cc⟩ := E
  obtain ⟨w1, hw1, hB, hS⟩ := rv_begin w 1 rr nn dd A 0 c fA fs.length fc cA cs.length cc
  have HB := Lib.hid hB
  have HG := Lib.hid (fun W (hW : Below w1.heap.size w1 W) => hS.below hW)
  have HW1 := Lib.hid (Below.refl w1.heap.size w1)
  show Calls Tryz.prog 75 #[.agg #[.int .u8 1, .string rr, .string nn, .int .i64 dd, .slice A 0 c], .int .i64 day, .agg #[.slice fA fs.length fc, .slice cA cs.length cc]] w _
  clear hE hB hS
  obtain ⟨c0, c1, c2, c3, c4, e0, e1⟩ := HG.out _ HW1.out
  go_enter Tryz.func75, Tryz.ntmps75
  go_wp2_with (fail)
  all_goals go_ret2
  all_goals exact ⟨rfl, btO HB.out HW1.out⟩
set_option maxRecDepth 100000 in
set_option maxHeartbeats 6400000 in
theorem rval_2 (rr nn : ByteArray) (dd : Int) (A : Option Addr) (c : Nat) (E : Ev) (day : Int) (w : World) (hE : E.In w) :
    Calls Tryz.prog 75 #[Ex.val (.mk 2 rr nn dd A c []), .int .i64 day, E.val] w (StE (lkN E.fs nn dd).1 (lkN E.fs nn dd).2 w) := by
  obtain ⟨fA, fs, fc, cA, cs, cc⟩ := E
  obtain ⟨w1, hw1, hB, hS⟩ := rv_begin w 2 rr nn dd A 0 c fA fs.length fc cA cs.length cc
  have HB := Lib.hid hB
  have HG := Lib.hid (fun W (hW : Below w1.heap.size w1 W) => hS.below hW)
  have HF : Hid (Calls Tryz.prog 110 #[.agg #[.slice fA fs.length fc, .slice cA cs.length cc], .string nn, .int .i64 dd] w1 (StE (lkN fs nn dd).1 (lkN fs nn dd).2 w1)) := rfixed_any ⟨fA, fs, fc, cA, cs, cc⟩ nn dd w1 (hE.below hB)
  generalize lkN fs nn dd = lk at *
  have HW1 := Lib.hid (Below.refl w1.heap.size w1)
  show Calls Tryz.prog 75 #[.agg #[.int .u8 2, .string rr, .string nn, .int .i64 dd, .slice A 0 c], .int .i64 day, .agg #[.slice fA fs.length fc, .slice cA cs.length cc]] w _
  clear hE hB hS
  obtain ⟨c0, c1, c2, c3, c4, e0, e1⟩ := HG.out _ HW1.out
  go_enter Tryz.func75, Tryz.ntmps75
  go_wp2_with ((go_at_call 110; ((with_reducible refine HF.out.mono ?_); rintro x w2 ⟨rfl, hb⟩; have HWF := Lib.hid hb; clear hb)))
  all_goals go_ret2
  all_goals exact ⟨rfl, btO HB.out HWF.out⟩
set_option maxRecDepth 100000 in
set_option maxHeartbeats 6400000 in
theorem rval_3 (rr nn : ByteArray) (dd : Int) (A : Option Addr) (c : Nat) (E : Ev) (day : Int) (w : World) (hE : E.In w) :
    Calls Tryz.prog 75 #[Ex.val (.mk 3 rr nn dd A c []), .int .i64 day, E.val] w (StE (lkN E.fs nn day).1 (lkN E.fs nn day).2 w) := by
  obtain ⟨fA, fs, fc, cA, cs, cc⟩ := E
  obtain ⟨w1, hw1, hB, hS⟩ := rv_begin w 3 rr nn dd A 0 c fA fs.length fc cA cs.length cc
  have HB := Lib.hid hB
  have HG := Lib.hid (fun W (hW : Below w1.heap.size w1 W) => hS.below hW)
  have HF : Hid (Calls Tryz.prog 110 #[.agg #[.slice fA fs.length fc, .slice cA cs.length cc], .string nn, .int .i64 day] w1 (StE (lkN fs nn day).1 (lkN fs nn day).2 w1)) := rfixed_any ⟨fA, fs, fc, cA, cs, cc⟩ nn day w1 (hE.below hB)
  generalize lkN fs nn day = lk at *
  have HW1 := Lib.hid (Below.refl w1.heap.size w1)
  show Calls Tryz.prog 75 #[.agg #[.int .u8 3, .string rr, .string nn, .int .i64 dd, .slice A 0 c], .int .i64 day, .agg #[.slice fA fs.length fc, .slice cA cs.length cc]] w _
  clear hE hB hS
  obtain ⟨c0, c1, c2, c3, c4, e0, e1⟩ := HG.out _ HW1.out
  go_enter Tryz.func75, Tryz.ntmps75
  go_wp2_with ((go_at_call 110; ((with_reducible refine HF.out.mono ?_); rintro x w2 ⟨rfl, hb⟩; have HWF := Lib.hid hb; clear hb)))
  all_goals go_ret2
  all_goals exact ⟨rfl, btO HB.out HWF.out⟩
set_option maxRecDepth 100000 in
set_option maxHeartbeats 6400000 in
theorem rval_9e (ba : Bool) (ea : Int) (rr nn : ByteArray) (dd : Int) (A : Option Addr) (c : Nat) (x y z : Ex) (E : Ev) (day : Int) (w : World) (hin : Ex.In w (.mk 9 rr nn dd A c [x, y, z])) (hE : E.In w) (hx : ∀ W, x.In W → E.In W → Calls Tryz.prog 76 #[x.val, .int .i64 day, E.val] W (fun e w' => e = .returned (.tuple #[.bool ba, .int .i64 ea]) ∧ Below W.heap.size W w')) (hea : (ea != 0) = true) :
    Calls Tryz.prog 75 #[Ex.val (.mk 9 rr nn dd A c [x, y, z]), .int .i64 day, E.val] w (StE ⟨#[]⟩ ea w) := by
  obtain ⟨b, o, rfl, ix, qx, iy, qy, iz, qz⟩ := hin.ptc3
  obtain ⟨fA, fs, fc, cA, cs, cc⟩ := E
  obtain ⟨w1, hw1, hB, hS⟩ := rv_begin w 9 rr nn dd (some ⟨b, o, none⟩) 3 c fA fs.length fc cA cs.length cc
  have HB := Lib.hid hB
  have HG := Lib.hid (fun W (hW : Below w1.heap.size w1 W) => And.intro (hS.below hW) (And.intro (qx.below (btO hB hW)) (And.intro (qy.below (btO hB hW)) (qz.below (btO hB hW)))))
  have Hx := Lib.hid (fun W (hW : Below w1.heap.size w1 W) => hx W (ix.below (btO hB hW)) (hE.below (btO hB hW)))
  have HW1 := Lib.hid (Below.refl w1.heap.size w1)
  show Calls Tryz.prog 75 #[.agg #[.int .u8 9, .string rr, .string nn, .int .i64 dd, .slice (some ⟨b, o, none⟩) 3 c], .int .i64 day, .agg #[.slice fA fs.length fc, .slice cA cs.length cc]] w _
  clear hin hE hB hS hx ix iy iz qx qy qz
  obtain ⟨⟨c0, c1, c2, c3, c4, e0, e1⟩, ⟨px0, px1, px2, px3, px4⟩, ⟨py0, py1, py2, py3, py4⟩, ⟨pz0, pz1, pz2, pz3, pz4⟩⟩ := HG.out _ HW1.out
  go_enter Tryz.func75, Tryz.ntmps75
  go_wp2_with (fail)
  obtain ⟨gS, gx, gy, gz⟩ := HG.out _ HW1.out
  obtain ⟨zc0, zc1, zc2, zc3, zc4, ze0, ze1⟩ := gS.zs
  obtain ⟨zpx0, zpx1, zpx2, zpx3, zpx4⟩ := gx.zs
  obtain ⟨zpy0, zpy1, zpy2, zpy3, zpy4⟩ := gy.zs
  obtain ⟨zpz0, zpz1, zpz2, zpz3, zpz4⟩ := gz.zs
  clear c0 c1 c2 c3 c4 e0 e1 px0 px1 px2 px3 px4 py0 py1 py2 py3 py4 pz0 pz1 pz2 pz3 pz4 gS gx gy gz
  clear hw1
  refine wp_region_bel (by kernel_rfl) (by kernel_rfl) ?_
  repeat (go_big_quiet_step (first
    | (go_at_call 76; with_reducible exact Bel.calls (fun W hW => Hx.out W (btO HW1.out hW)) _)))
  refine wpQuiet_nil ?_
  rintro _ ⟨zz, rfl⟩
  clear zc0 zc1 zc2 zc3 zc4 ze0 ze1 zpx0 zpx1 zpx2 zpx3 zpx4 zpy0 zpy1 zpy2 zpy3 zpy4 zpz0 zpz1 zpz2 zpz3 zpz4
  have HW2 := Lib.hid (btO HW1.out zz.2)
  generalize zz.1 = w2 at *
  obtain ⟨⟨c0, c1, c2, c3, c4, e0, e1⟩, ⟨px0, px1, px2, px3, px4⟩, ⟨py0, py1, py2, py3, py4⟩, ⟨pz0, pz1, pz2, pz3, pz4⟩⟩ := HG.out _ HW2.out
  go_wp2_with (fail)
  all_goals go_ret2
  all_goals exact ⟨rfl, btO HB.out HW2.out⟩
set_option maxRecDepth 100000 in
set_option maxHeartbeats 6400000 in
theorem rval_9t (va : ByteArray) (ea : Int) (rr nn : ByteArray) (dd : Int) (A : Option Addr) (c : Nat) (x y z : Ex) (E : Ev) (day : Int) (w : World) (hin : Ex.In w (.mk 9 rr nn dd A c [x, y, z])) (hE : E.In w) (hx : ∀ W, x.In W → E.In W → Calls Tryz.prog 76 #[x.val, .int .i64 day, E.val] W (fun e w' => e = .returned (.tuple #[.bool true, .int .i64 0]) ∧ Below W.heap.size W w')) (hq : ∀ W, y.In W → E.In W → Calls Tryz.prog 75 #[y.val, .int .i64 day, E.val] W (fun e w' => e = .returned (.tuple #[.string va, .int .i64 ea]) ∧ Below W.heap.size W w')) :
    Calls Tryz.prog 75 #[Ex.val (.mk 9 rr nn dd A c [x, y, z]), .int .i64 day, E.val] w (StE va ea w) := by
  obtain ⟨b, o, rfl, ix, qx, iy, qy, iz, qz⟩ := hin.ptc3
  obtain ⟨fA, fs, fc, cA, cs, cc⟩ := E
  obtain ⟨w1, hw1, hB, hS⟩ := rv_begin w 9 rr nn dd (some ⟨b, o, none⟩) 3 c fA fs.length fc cA cs.length cc
  have HB := Lib.hid hB
  have HG := Lib.hid (fun W (hW : Below w1.heap.size w1 W) => And.intro (hS.below hW) (And.intro (qx.below (btO hB hW)) (And.intro (qy.below (btO hB hW)) (qz.below (btO hB hW)))))
  have Hx := Lib.hid (fun W (hW : Below w1.heap.size w1 W) => hx W (ix.below (btO hB hW)) (hE.below (btO hB hW)))
  have Hy : Hid (∀ W, Below w1.heap.size w1 W → Calls Tryz.prog 75 #[.agg #[.int .u8 y.k, .string y.r, .string y.n, .int .i64 y.d, .slice y.A y.sub.length y.c], .int .i64 day, .agg #[.slice fA fs.length fc, .slice cA cs.length cc]] W (fun e w' => e = .returned (.tuple #[.string va, .int .i64 ea]) ∧ Below W.heap.size W w')) := fun W hW => hq W (iy.below (btO hB hW)) (hE.below (btO hB hW))
  clear hq
  have HW1 := Lib.hid (Below.refl w1.heap.size w1)
  show Calls Tryz.prog 75 #[.agg #[.int .u8 9, .string rr, .string nn, .int .i64 dd, .slice (some ⟨b, o, none⟩) 3 c], .int .i64 day, .agg #[.slice fA fs.length fc, .slice cA cs.length cc]] w _
  clear hin hE hB hS hx ix iy iz qx qy qz
  obtain ⟨⟨c0, c1, c2, c3, c4, e0, e1⟩, ⟨px0, px1, px2, px3, px4⟩, ⟨py0, py1, py2, py3, py4⟩, ⟨pz0, pz1, pz2, pz3, pz4⟩⟩ := HG.out _ HW1.out
  go_enter Tryz.func75, Tryz.ntmps75
  go_wp2_with (fail)
  obtain ⟨gS, gx, gy, gz⟩ := HG.out _ HW1.out
  obtain ⟨zc0, zc1, zc2, zc3, zc4, ze0, ze1⟩ := gS.zs
  obtain ⟨zpx0, zpx1, zpx2, zpx3, zpx4⟩ := gx.zs
  obtain ⟨zpy0, zpy1, zpy2, zpy3, zpy4⟩ := gy.zs
  obtain ⟨zpz0, zpz1, zpz2, zpz3, zpz4⟩ := gz.zs
  clear c0 c1 c2 c3 c4 e0 e1 px0 px1 px2 px3 px4 py0 py1 py2 py3 py4 pz0 pz1 pz2 pz3 pz4 gS gx gy gz
  clear hw1
  refine wp_region_bel (by kernel_rfl) (by kernel_rfl) ?_
  repeat (go_big_quiet_step (first
    | (go_at_call 76; with_reducible exact Bel.calls (fun W hW => Hx.out W (btO HW1.out hW)) _)))
  refine wpQuiet_nil ?_
  rintro _ ⟨zz, rfl⟩
  clear zc0 zc1 zc2 zc3 zc4 ze0 ze1 zpx0 zpx1 zpx2 zpx3 zpx4 zpy0 zpy1 zpy2 zpy3 zpy4 zpz0 zpz1 zpz2 zpz3 zpz4
  have HW2 := Lib.hid (btO HW1.out zz.2)
  generalize zz.1 = w2 at *
  obtain ⟨⟨c0, c1, c2, c3, c4, e0, e1⟩, ⟨px0, px1, px2, px3, px4⟩, ⟨py0, py1, py2, py3, py4⟩, ⟨pz0, pz1, pz2, pz3, pz4⟩⟩ := HG.out _ HW2.out
  have hz := heap_alloc_new w2 (.cells #[.int .u8 z.k, .string z.r, .string z.n, .int .i64 z.d, .slice z.A z.sub.length z.c] 26)
  have l0 := row_cell (j := 0) hz rfl
  have m0 := row_frz (j := 0) hz
  have l1 := row_cell (j := 1) hz rfl
  have m1 := row_frz (j := 1) hz
  have l2 := row_cell (j := 2) hz rfl
  have m2 := row_frz (j := 2) hz
  have l3 := row_cell (j := 3) hz rfl
  have m3 := row_frz (j := 3) hz
  have l4 := row_cell (j := 4) hz rfl
  have m4 := row_frz (j := 4) hz
  clear hz
  obtain ⟨⟨k0, k1, k2, k3, k4, k5, k6⟩, -, ⟨j0, j1, j2, j3, j4⟩, -⟩ := HG.out _ (btO HW2.out (belO w2 (.cells #[.int .u8 z.k, .string z.r, .string z.n, .int .i64 z.d, .slice z.A z.sub.length z.c] 26)))
  obtain ⟨⟨-, -, -, -, -, i5, i6⟩, -⟩ := HG.out _ (btO HW2.out (belO w2 (.cells #[.int .u8 y.k, .string y.r, .string y.n, .int .i64 y.d, .slice y.A y.sub.length y.c] 26)))
  go_wp2_with ((go_at_call 75; ((with_reducible refine (Hy.out _ (by first | exact btO HW2.out (belO _ _) | exact nine5 HW2.out)).mono ?_); rintro u wF ⟨rfl, hb⟩; have HWF := Lib.hid (btO (show Below w1.heap.size w1 _ by first | exact btO HW2.out (belO _ _) | exact nine5 HW2.out) hb); clear hb)))
  all_goals go_ret2
  all_goals exact ⟨rfl, btO HB.out HWF.out⟩
set_option maxRecDepth 100000 in
set_option maxHeartbeats 6400000 in
theorem rval_9f (va : ByteArray) (ea : Int) (rr nn : ByteArray) (dd : Int) (A : Option Addr) (c : Nat) (x y z : Ex) (E : Ev) (day : Int) (w : World) (hin : Ex.In w (.mk 9 rr nn dd A c [x, y, z])) (hE : E.In w) (hx : ∀ W, x.In W → E.In W → Calls Tryz.prog 76 #[x.val, .int .i64 day, E.val] W (fun e w' => e = .returned (.tuple #[.bool false, .int .i64 0]) ∧ Below W.heap.size W w')) (hq : ∀ W, z.In W → E.In W → Calls Tryz.prog 75 #[z.val, .int .i64 day, E.val] W (fun e w' => e = .returned (.tuple #[.string va, .int .i64 ea]) ∧ Below W.heap.size W w')) :
    Calls Tryz.prog 75 #[Ex.val (.mk 9 rr nn dd A c [x, y, z]), .int .i64 day, E.val] w (StE va ea w) := by
  obtain ⟨b, o, rfl, ix, qx, iy, qy, iz, qz⟩ := hin.ptc3
  obtain ⟨fA, fs, fc, cA, cs, cc⟩ := E
  obtain ⟨w1, hw1, hB, hS⟩ := rv_begin w 9 rr nn dd (some ⟨b, o, none⟩) 3 c fA fs.length fc cA cs.length cc
  have HB := Lib.hid hB
  have HG := Lib.hid (fun W (hW : Below w1.heap.size w1 W) => And.intro (hS.below hW) (And.intro (qx.below (btO hB hW)) (And.intro (qy.below (btO hB hW)) (qz.below (btO hB hW)))))
  have Hx := Lib.hid (fun W (hW : Below w1.heap.size w1 W) => hx W (ix.below (btO hB hW)) (hE.below (btO hB hW)))
  have Hz : Hid (∀ W, Below w1.heap.size w1 W → Calls Tryz.prog 75 #[.agg #[.int .u8 z.k, .string z.r, .string z.n, .int .i64 z.d, .slice z.A z.sub.length z.c], .int .i64 day, .agg #[.slice fA fs.length fc, .slice cA cs.length cc]] W (fun e w' => e = .returned (.tuple #[.string va, .int .i64 ea]) ∧ Below W.heap.size W w')) := fun W hW => hq W (iz.below (btO hB hW)) (hE.below (btO hB hW))
  clear hq
  have HW1 := Lib.hid (Below.refl w1.heap.size w1)
  show Calls Tryz.prog 75 #[.agg #[.int .u8 9, .string rr, .string nn, .int .i64 dd, .slice (some ⟨b, o, none⟩) 3 c], .int .i64 day, .agg #[.slice fA fs.length fc, .slice cA cs.length cc]] w _
  clear hin hE hB hS hx ix iy iz qx qy qz
  obtain ⟨⟨c0, c1, c2, c3, c4, e0, e1⟩, ⟨px0, px1, px2, px3, px4⟩, ⟨py0, py1, py2, py3, py4⟩, ⟨pz0, pz1, pz2, pz3, pz4⟩⟩ := HG.out _ HW1.out
  go_enter Tryz.func75, Tryz.ntmps75
  go_wp2_with (fail)
  obtain ⟨gS, gx, gy, gz⟩ := HG.out _ HW1.out
  obtain ⟨zc0, zc1, zc2, zc3, zc4, ze0, ze1⟩ := gS.zs
  obtain ⟨zpx0, zpx1, zpx2, zpx3, zpx4⟩ := gx.zs
  obtain ⟨zpy0, zpy1, zpy2, zpy3, zpy4⟩ := gy.zs
  obtain ⟨zpz0, zpz1, zpz2, zpz3, zpz4⟩ := gz.zs
  clear c0 c1 c2 c3 c4 e0 e1 px0 px1 px2 px3 px4 py0 py1 py2 py3 py4 pz0 pz1 pz2 pz3 pz4 gS gx gy gz
  clear hw1
  refine wp_region_bel (by kernel_rfl) (by kernel_rfl) ?_
  repeat (go_big_quiet_step (first
    | (go_at_call 76; with_reducible exact Bel.calls (fun W hW => Hx.out W (btO HW1.out hW)) _)))
  refine wpQuiet_nil ?_
  rintro _ ⟨zz, rfl⟩
  clear zc0 zc1 zc2 zc3 zc4 ze0 ze1 zpx0 zpx1 zpx2 zpx3 zpx4 zpy0 zpy1 zpy2 zpy3 zpy4 zpz0 zpz1 zpz2 zpz3 zpz4
  have HW2 := Lib.hid (btO HW1.out zz.2)
  generalize zz.1 = w2 at *
  obtain ⟨⟨c0, c1, c2, c3, c4, e0, e1⟩, ⟨px0, px1, px2, px3, px4⟩, ⟨py0, py1, py2, py3, py4⟩, ⟨pz0, pz1, pz2, pz3, pz4⟩⟩ := HG.out _ HW2.out
  have hz := heap_alloc_new w2 (.cells #[.int .u8 z.k, .string z.r, .string z.n, .int .i64 z.d, .slice z.A z.sub.length z.c] 26)
  have l0 := row_cell (j := 0) hz rfl
  have m0 := row_frz (j := 0) hz
  have l1 := row_cell (j := 1) hz rfl
  have m1 := row_frz (j := 1) hz
  have l2 := row_cell (j := 2) hz rfl
  have m2 := row_frz (j := 2) hz
  have l3 := row_cell (j := 3) hz rfl
  have m3 := row_frz (j := 3) hz
  have l4 := row_cell (j := 4) hz rfl
  have m4 := row_frz (j := 4) hz
  clear hz
  obtain ⟨⟨k0, k1, k2, k3, k4, k5, k6⟩, -, ⟨j0, j1, j2, j3, j4⟩, -⟩ := HG.out _ (btO HW2.out (belO w2 (.cells #[.int .u8 z.k, .string z.r, .string z.n, .int .i64 z.d, .slice z.A z.sub.length z.c] 26)))
  go_wp2_with ((go_at_call 75; ((with_reducible refine (Hz.out _ (by first | exact btO HW2.out (belO _ _) | exact nine5 HW2.out)).mono ?_); rintro u wF ⟨rfl, hb⟩; have HWF := Lib.hid (btO (show Below w1.heap.size w1 _ by first | exact btO HW2.out (belO _ _) | exact nine5 HW2.out) hb); clear hb)))
  all_goals go_ret2
  all_goals exact ⟨rfl, btO HB.out HWF.out⟩
set_option maxRecDepth 100000 in
set_option maxHeartbeats 6400000 in
theorem rval_e1 (kk : Int) (k1 : (kk == 1) = false) (k2 : (kk == 2) = false) (k3 : (kk == 3) = false) (k9 : (kk == 9) = false) (va : ByteArray) (ea : Int) (rr nn : ByteArray) (dd : Int) (A : Option Addr) (c : Nat) (x y : Ex) (E : Ev) (day : Int) (w : World) (hin : Ex.In w (.mk kk rr nn dd A c [x, y])) (hE : E.In w) (hx : ∀ W, x.In W → E.In W → Calls Tryz.prog 75 #[x.val, .int .i64 day, E.val] W (fun e w' => e = .returned (.tuple #[.string va, .int .i64 ea]) ∧ Below W.heap.size W w')) (hea : (ea != 0) = true) :
    Calls Tryz.prog 75 #[Ex.val (.mk kk rr nn dd A c [x, y]), .int .i64 day, E.val] w (StE ⟨#[]⟩ ea w) := by
  obtain ⟨b, o, rfl, ix, qx, iy, qy⟩ := hin.ptc2
  obtain ⟨fA, fs, fc, cA, cs, cc⟩ := E
  obtain ⟨w1, hw1, hB, hS⟩ := rv_begin w kk rr nn dd (some ⟨b, o, none⟩) 2 c fA fs.length fc cA cs.length cc
  have HB := Lib.hid hB
  have HG := Lib.hid (fun W (hW : Below w1.heap.size w1 W) => And.intro (hS.below hW) (And.intro (qx.below (btO hB hW)) (qy.below (btO hB hW))))
  have Hx := Lib.hid (fun W (hW : Below w1.heap.size w1 W) => hx W (ix.below (btO hB hW)) (hE.below (btO hB hW)))
  have HW1 := Lib.hid (Below.refl w1.heap.size w1)
  show Calls Tryz.prog 75 #[.agg #[.int .u8 kk, .string rr, .string nn, .int .i64 dd, .slice (some ⟨b, o, none⟩) 2 c], .int .i64 day, .agg #[.slice fA fs.length fc, .slice cA cs.length cc]] w _
  clear hin hE hB hS hx ix iy qx qy
  obtain ⟨⟨c0, c1, c2, c3, c4, e0, e1⟩, ⟨px0, px1, px2, px3, px4⟩, ⟨py0, py1, py2, py3, py4⟩⟩ := HG.out _ HW1.out
  go_enter Tryz.func75, Tryz.ntmps75
  go_wp2_with (fail)
  obtain ⟨gS, gx, gy⟩ := HG.out _ HW1.out
  obtain ⟨zc0, zc1, zc2, zc3, zc4, ze0, ze1⟩ := gS.zs
  obtain ⟨zpx0, zpx1, zpx2, zpx3, zpx4⟩ := gx.zs
  obtain ⟨zpy0, zpy1, zpy2, zpy3, zpy4⟩ := gy.zs
  clear c0 c1 c2 c3 c4 e0 e1 px0 px1 px2 px3 px4 py0 py1 py2 py3 py4 gS gx gy
  clear hw1
  refine wp_region_bel (by kernel_rfl) (by kernel_rfl) ?_
  repeat (go_big_quiet_step (first
    | (go_at_call 75; with_reducible exact Bel.calls (fun W hW => Hx.out W (btO HW1.out hW)) _)))
  refine wpQuiet_nil ?_
  rintro _ ⟨zz, rfl⟩
  clear zc0 zc1 zc2 zc3 zc4 ze0 ze1 zpx0 zpx1 zpx2 zpx3 zpx4 zpy0 zpy1 zpy2 zpy3 zpy4
  have HW2 := Lib.hid (btO HW1.out zz.2)
  generalize zz.1 = w2 at *
  obtain ⟨⟨c0, c1, c2, c3, c4, e0, e1⟩, ⟨px0, px1, px2, px3, px4⟩, ⟨py0, py1, py2, py3, py4⟩⟩ := HG.out _ HW2.out
  go_wp2_with (fail)
  all_goals go_ret2
  all_goals exact ⟨rfl, btO HB.out HW2.out⟩
set_option maxRecDepth 100000 in
set_option maxHeartbeats 6400000 in
theorem rval_e2 (kk : Int) (k1 : (kk == 1) = false) (k2 : (kk == 2) = false) (k3 : (kk == 3) = false) (k9 : (kk == 9) = false) (va vb : ByteArray) (ea : Int) (rr nn : ByteArray) (dd : Int) (A : Option Addr) (c : Nat) (x y : Ex) (E : Ev) (day : Int) (w : World) (hin : Ex.In w (.mk kk rr nn dd A c [x, y])) (hE : E.In w) (hx : ∀ W, x.In W → E.In W → Calls Tryz.prog 75 #[x.val, .int .i64 day, E.val] W (fun e w' => e = .returned (.tuple #[.string va, .int .i64 0]) ∧ Below W.heap.size W w')) (hy : ∀ W, y.In W → E.In W → Calls Tryz.prog 75 #[y.val, .int .i64 day, E.val] W (fun e w' => e = .returned (.tuple #[.string vb, .int .i64 ea]) ∧ Below W.heap.size W w')) (hea : (ea != 0) = true) :
    Calls Tryz.prog 75 #[Ex.val (.mk kk rr nn dd A c [x, y]), .int .i64 day, E.val] w (StE ⟨#[]⟩ ea w) := by
  obtain ⟨b, o, rfl, ix, qx, iy, qy⟩ := hin.ptc2
  obtain ⟨fA, fs, fc, cA, cs, cc⟩ := E
  obtain ⟨w1, hw1, hB, hS⟩ := rv_begin w kk rr nn dd (some ⟨b, o, none⟩) 2 c fA fs.length fc cA cs.length cc
  have HB := Lib.hid hB
  have HG := Lib.hid (fun W (hW : Below w1.heap.size w1 W) => And.intro (hS.below hW) (And.intro (qx.below (btO hB hW)) (qy.below (btO hB hW))))
  have Hx := Lib.hid (fun W (hW : Below w1.heap.size w1 W) => hx W (ix.below (btO hB hW)) (hE.below (btO hB hW)))
  have Hy := Lib.hid (fun W (hW : Below w1.heap.size w1 W) => hy W (iy.below (btO hB hW)) (hE.below (btO hB hW)))
  have HW1 := Lib.hid (Below.refl w1.heap.size w1)
  show Calls Tryz.prog 75 #[.agg #[.int .u8 kk, .string rr, .string nn, .int .i64 dd, .slice (some ⟨b, o, none⟩) 2 c], .int .i64 day, .agg #[.slice fA fs.length fc, .slice cA cs.length cc]] w _
  clear hin hE hB hS hx hy ix iy qx qy
  obtain ⟨⟨c0, c1, c2, c3, c4, e0, e1⟩, ⟨px0, px1, px2, px3, px4⟩, ⟨py0, py1, py2, py3, py4⟩⟩ := HG.out _ HW1.out
  go_enter Tryz.func75, Tryz.ntmps75
  go_wp2_with (fail)
  obtain ⟨gS, gx, gy⟩ := HG.out _ HW1.out
  obtain ⟨zc0, zc1, zc2, zc3, zc4, ze0, ze1⟩ := gS.zs
  obtain ⟨zpx0, zpx1, zpx2, zpx3, zpx4⟩ := gx.zs
  obtain ⟨zpy0, zpy1, zpy2, zpy3, zpy4⟩ := gy.zs
  clear c0 c1 c2 c3 c4 e0 e1 px0 px1 px2 px3 px4 py0 py1 py2 py3 py4 gS gx gy
  clear hw1
  refine wp_region_bel (by kernel_rfl) (by kernel_rfl) ?_
  repeat (go_big_quiet_step (first
    | (go_at_call 75; with_reducible exact Bel.calls (fun W hW => Hx.out W (btO HW1.out hW)) _)))
  refine wpQuiet_nil ?_
  rintro _ ⟨zz, rfl⟩
  clear zc0 zc1 zc2 zc3 zc4 ze0 ze1 zpx0 zpx1 zpx2 zpx3 zpx4 zpy0 zpy1 zpy2 zpy3 zpy4
  have HW2 := Lib.hid (btO HW1.out zz.2)
  generalize zz.1 = w2 at *
  obtain ⟨⟨c0, c1, c2, c3, c4, e0, e1⟩, ⟨px0, px1, px2, px3, px4⟩, ⟨py0, py1, py2, py3, py4⟩⟩ := HG.out _ HW2.out
  go_wp2_with (fail)
  obtain ⟨gS, gx, gy⟩ := HG.out _ HW2.out
  obtain ⟨zc0, zc1, zc2, zc3, zc4, ze0, ze1⟩ := gS.zs
  obtain ⟨zpx0, zpx1, zpx2, zpx3, zpx4⟩ := gx.zs
  obtain ⟨zpy0, zpy1, zpy2, zpy3, zpy4⟩ := gy.zs
  clear c0 c1 c2 c3 c4 e0 e1 px0 px1 px2 px3 px4 py0 py1 py2 py3 py4 gS gx gy
  refine wp_region_bel (by kernel_rfl) (by kernel_rfl) ?_
  repeat (go_big_quiet_step (first
    | (go_at_call 75; with_reducible exact Bel.calls (fun W hW => Hy.out W (btO HW2.out hW)) _)))
  refine wpQuiet_nil ?_
  rintro _ ⟨zz, rfl⟩
  clear zc0 zc1 zc2 zc3 zc4 ze0 ze1 zpx0 zpx1 zpx2 zpx3 zpx4 zpy0 zpy1 zpy2 zpy3 zpy4
  have HW3 := Lib.hid (btO HW2.out zz.2)
  generalize zz.1 = w3 at *
  obtain ⟨⟨c0, c1, c2, c3, c4, e0, e1⟩, ⟨px0, px1, px2, px3, px4⟩, ⟨py0, py1, py2, py3, py4⟩⟩ := HG.out _ HW3.out
  go_wp2_with (fail)
  all_goals go_ret2
  all_goals exact ⟨rfl, btO HB.out HW3.out⟩
end Go.Proofs.YtceooffedkalnaaGreatDoor
/- Layer 8: Held of the reference, on each way. -/
namespace Go.Proofs.YtceooffedkalnaaGreatDoor
open Go Go.RowKit Go.BigFrame
set_option maxRecDepth 100000 in
set_option maxHeartbeats 6400000 in
theorem rhel_ne (ba : Bool) (ea : Int) (rr nn : ByteArray) (dd : Int) (A : Option Addr) (c : Nat) (x : Ex) (E : Ev) (day : Int) (w : World) (hin : Ex.In w (.mk 15 rr nn dd A c [x])) (hE : E.In w) (hx : ∀ W, x.In W → E.In W → Calls Tryz.prog 76 #[x.val, .int .i64 day, E.val] W (fun e w' => e = .returned (.tuple #[.bool ba, .int .i64 ea]) ∧ Below W.heap.size W w')) (hea : (ea != 0) = true) :
    Calls Tryz.prog 76 #[Ex.val (.mk 15 rr nn dd A c [x]), .int .i64 day, E.val] w (TrE false ea w) := by
  obtain ⟨b, o, rfl, ix, qx⟩ := hin.ptc1
  obtain ⟨fA, fs, fc, cA, cs, cc⟩ := E
  obtain ⟨w1, hw1, hB, hS⟩ := rv_begin w 15 rr nn dd (some ⟨b, o, none⟩) 1 c fA fs.length fc cA cs.length cc
  have HB := Lib.hid hB
  have HG := Lib.hid (fun W (hW : Below w1.heap.size w1 W) => And.intro (hS.below hW) (qx.below (btO hB hW)))
  have Hx := Lib.hid (fun W (hW : Below w1.heap.size w1 W) => hx W (ix.below (btO hB hW)) (hE.below (btO hB hW)))
  have HW1 := Lib.hid (Below.refl w1.heap.size w1)
  show Calls Tryz.prog 76 #[.agg #[.int .u8 15, .string rr, .string nn, .int .i64 dd, .slice (some ⟨b, o, none⟩) 1 c], .int .i64 day, .agg #[.slice fA fs.length fc, .slice cA cs.length cc]] w _
  clear hin hE hB hS hx ix qx
  obtain ⟨⟨c0, c1, c2, c3, c4, e0, e1⟩, ⟨px0, px1, px2, px3, px4⟩⟩ := HG.out _ HW1.out
  go_enter Tryz.func76, Tryz.ntmps76
  go_wp2_with (fail)
  obtain ⟨gS, gx⟩ := HG.out _ HW1.out
  obtain ⟨zc0, zc1, zc2, zc3, zc4, ze0, ze1⟩ := gS.zs
  obtain ⟨zpx0, zpx1, zpx2, zpx3, zpx4⟩ := gx.zs
  clear c0 c1 c2 c3 c4 e0 e1 px0 px1 px2 px3 px4 gS gx
  clear hw1
  refine wp_region_bel (by kernel_rfl) (by kernel_rfl) ?_
  repeat (go_big_quiet_step (first
    | (go_at_call 76; with_reducible exact Bel.calls (fun W hW => Hx.out W (btO HW1.out hW)) _)))
  refine wpQuiet_nil ?_
  rintro _ ⟨zz, rfl⟩
  clear zc0 zc1 zc2 zc3 zc4 ze0 ze1 zpx0 zpx1 zpx2 zpx3 zpx4
  have HW2 := Lib.hid (btO HW1.out zz.2)
  generalize zz.1 = w2 at *
  obtain ⟨⟨c0, c1, c2, c3, c4, e0, e1⟩, ⟨px0, px1, px2, px3, px4⟩⟩ := HG.out _ HW2.out
  go_wp2_with (fail)
  all_goals go_ret2
  all_goals exact ⟨rfl, btO HB.out HW2.out⟩
set_option maxRecDepth 100000 in
set_option maxHeartbeats 6400000 in
theorem rhel_no (ba : Bool) (rr nn : ByteArray) (dd : Int) (A : Option Addr) (c : Nat) (x : Ex) (E : Ev) (day : Int) (w : World) (hin : Ex.In w (.mk 15 rr nn dd A c [x])) (hE : E.In w) (hx : ∀ W, x.In W → E.In W → Calls Tryz.prog 76 #[x.val, .int .i64 day, E.val] W (fun e w' => e = .returned (.tuple #[.bool ba, .int .i64 0]) ∧ Below W.heap.size W w')) :
    Calls Tryz.prog 76 #[Ex.val (.mk 15 rr nn dd A c [x]), .int .i64 day, E.val] w (TrE (!ba) 0 w) := by
  obtain ⟨b, o, rfl, ix, qx⟩ := hin.ptc1
  obtain ⟨fA, fs, fc, cA, cs, cc⟩ := E
  obtain ⟨w1, hw1, hB, hS⟩ := rv_begin w 15 rr nn dd (some ⟨b, o, none⟩) 1 c fA fs.length fc cA cs.length cc
  have HB := Lib.hid hB
  have HG := Lib.hid (fun W (hW : Below w1.heap.size w1 W) => And.intro (hS.below hW) (qx.below (btO hB hW)))
  have Hx := Lib.hid (fun W (hW : Below w1.heap.size w1 W) => hx W (ix.below (btO hB hW)) (hE.below (btO hB hW)))
  have HW1 := Lib.hid (Below.refl w1.heap.size w1)
  show Calls Tryz.prog 76 #[.agg #[.int .u8 15, .string rr, .string nn, .int .i64 dd, .slice (some ⟨b, o, none⟩) 1 c], .int .i64 day, .agg #[.slice fA fs.length fc, .slice cA cs.length cc]] w _
  clear hin hE hB hS hx ix qx
  obtain ⟨⟨c0, c1, c2, c3, c4, e0, e1⟩, ⟨px0, px1, px2, px3, px4⟩⟩ := HG.out _ HW1.out
  go_enter Tryz.func76, Tryz.ntmps76
  go_wp2_with (fail)
  obtain ⟨gS, gx⟩ := HG.out _ HW1.out
  obtain ⟨zc0, zc1, zc2, zc3, zc4, ze0, ze1⟩ := gS.zs
  obtain ⟨zpx0, zpx1, zpx2, zpx3, zpx4⟩ := gx.zs
  clear c0 c1 c2 c3 c4 e0 e1 px0 px1 px2 px3 px4 gS gx
  clear hw1
  refine wp_region_bel (by kernel_rfl) (by kernel_rfl) ?_
  repeat (go_big_quiet_step (first
    | (go_at_call 76; with_reducible exact Bel.calls (fun W hW => Hx.out W (btO HW1.out hW)) _)))
  refine wpQuiet_nil ?_
  rintro _ ⟨zz, rfl⟩
  clear zc0 zc1 zc2 zc3 zc4 ze0 ze1 zpx0 zpx1 zpx2 zpx3 zpx4
  have HW2 := Lib.hid (btO HW1.out zz.2)
  generalize zz.1 = w2 at *
  obtain ⟨⟨c0, c1, c2, c3, c4, e0, e1⟩, ⟨px0, px1, px2, px3, px4⟩⟩ := HG.out _ HW2.out
  go_wp2_with (fail)
  all_goals go_ret2
  all_goals exact ⟨rfl, btO HB.out HW2.out⟩
set_option maxRecDepth 100000 in
set_option maxHeartbeats 6400000 in
theorem rhel_ae (kk : Int) (k13 : 13 ≤ kk) (ba : Bool) (ea : Int) (rr nn : ByteArray) (dd : Int) (A : Option Addr) (c : Nat) (x y : Ex) (E : Ev) (day : Int) (w : World) (hin : Ex.In w (.mk kk rr nn dd A c [x, y])) (hE : E.In w) (hx : ∀ W, x.In W → E.In W → Calls Tryz.prog 76 #[x.val, .int .i64 day, E.val] W (fun e w' => e = .returned (.tuple #[.bool ba, .int .i64 ea]) ∧ Below W.heap.size W w')) (hea : (ea != 0) = true) :
    Calls Tryz.prog 76 #[Ex.val (.mk kk rr nn dd A c [x, y]), .int .i64 day, E.val] w (TrE false ea w) := by
  obtain ⟨b, o, rfl, ix, qx, iy, qy⟩ := hin.ptc2
  obtain ⟨fA, fs, fc, cA, cs, cc⟩ := E
  obtain ⟨w1, hw1, hB, hS⟩ := rv_begin w kk rr nn dd (some ⟨b, o, none⟩) 2 c fA fs.length fc cA cs.length cc
  have HB := Lib.hid hB
  have HG := Lib.hid (fun W (hW : Below w1.heap.size w1 W) => And.intro (hS.below hW) (And.intro (qx.below (btO hB hW)) (qy.below (btO hB hW))))
  have Hx := Lib.hid (fun W (hW : Below w1.heap.size w1 W) => hx W (ix.below (btO hB hW)) (hE.below (btO hB hW)))
  have HW1 := Lib.hid (Below.refl w1.heap.size w1)
  show Calls Tryz.prog 76 #[.agg #[.int .u8 kk, .string rr, .string nn, .int .i64 dd, .slice (some ⟨b, o, none⟩) 2 c], .int .i64 day, .agg #[.slice fA fs.length fc, .slice cA cs.length cc]] w _
  clear hin hE hB hS hx ix iy qx qy
  obtain ⟨⟨c0, c1, c2, c3, c4, e0, e1⟩, ⟨px0, px1, px2, px3, px4⟩, ⟨py0, py1, py2, py3, py4⟩⟩ := HG.out _ HW1.out
  go_enter Tryz.func76, Tryz.ntmps76
  go_wp2_with (fail)
  obtain ⟨gS, gx, gy⟩ := HG.out _ HW1.out
  obtain ⟨zc0, zc1, zc2, zc3, zc4, ze0, ze1⟩ := gS.zs
  obtain ⟨zpx0, zpx1, zpx2, zpx3, zpx4⟩ := gx.zs
  obtain ⟨zpy0, zpy1, zpy2, zpy3, zpy4⟩ := gy.zs
  clear c0 c1 c2 c3 c4 e0 e1 px0 px1 px2 px3 px4 py0 py1 py2 py3 py4 gS gx gy
  clear hw1
  refine wp_region_bel (by kernel_rfl) (by kernel_rfl) ?_
  repeat (go_big_quiet_step (first
    | (go_at_call 76; with_reducible exact Bel.calls (fun W hW => Hx.out W (btO HW1.out hW)) _)))
  refine wpQuiet_nil ?_
  rintro _ ⟨zz, rfl⟩
  clear zc0 zc1 zc2 zc3 zc4 ze0 ze1 zpx0 zpx1 zpx2 zpx3 zpx4 zpy0 zpy1 zpy2 zpy3 zpy4
  have HW2 := Lib.hid (btO HW1.out zz.2)
  generalize zz.1 = w2 at *
  obtain ⟨⟨c0, c1, c2, c3, c4, e0, e1⟩, ⟨px0, px1, px2, px3, px4⟩, ⟨py0, py1, py2, py3, py4⟩⟩ := HG.out _ HW2.out
  go_wp2_with (fail)
  all_goals go_ret2
  all_goals exact ⟨rfl, btO HB.out HW2.out⟩
set_option maxRecDepth 100000 in
set_option maxHeartbeats 6400000 in
theorem rhel_13s (rr nn : ByteArray) (dd : Int) (A : Option Addr) (c : Nat) (x y : Ex) (E : Ev) (day : Int) (w : World) (hin : Ex.In w (.mk 13 rr nn dd A c [x, y])) (hE : E.In w) (hx : ∀ W, x.In W → E.In W → Calls Tryz.prog 76 #[x.val, .int .i64 day, E.val] W (fun e w' => e = .returned (.tuple #[.bool false, .int .i64 0]) ∧ Below W.heap.size W w')) :
    Calls Tryz.prog 76 #[Ex.val (.mk 13 rr nn dd A c [x, y]), .int .i64 day, E.val] w (TrE false 0 w) := by
  obtain ⟨b, o, rfl, ix, qx, iy, qy⟩ := hin.ptc2
  obtain ⟨fA, fs, fc, cA, cs, cc⟩ := E
  obtain ⟨w1, hw1, hB, hS⟩ := rv_begin w 13 rr nn dd (some ⟨b, o, none⟩) 2 c fA fs.length fc cA cs.length cc
  have HB := Lib.hid hB
  have HG := Lib.hid (fun W (hW : Below w1.heap.size w1 W) => And.intro (hS.below hW) (And.intro (qx.below (btO hB hW)) (qy.below (btO hB hW))))
  have Hx := Lib.hid (fun W (hW : Below w1.heap.size w1 W) => hx W (ix.below (btO hB hW)) (hE.below (btO hB hW)))
  have HW1 := Lib.hid (Below.refl w1.heap.size w1)
  show Calls Tryz.prog 76 #[.agg #[.int .u8 13, .string rr, .string nn, .int .i64 dd, .slice (some ⟨b, o, none⟩) 2 c], .int .i64 day, .agg #[.slice fA fs.length fc, .slice cA cs.length cc]] w _
  clear hin hE hB hS hx ix iy qx qy
  obtain ⟨⟨c0, c1, c2, c3, c4, e0, e1⟩, ⟨px0, px1, px2, px3, px4⟩, ⟨py0, py1, py2, py3, py4⟩⟩ := HG.out _ HW1.out
  go_enter Tryz.func76, Tryz.ntmps76
  go_wp2_with (fail)
  obtain ⟨gS, gx, gy⟩ := HG.out _ HW1.out
  obtain ⟨zc0, zc1, zc2, zc3, zc4, ze0, ze1⟩ := gS.zs
  obtain ⟨zpx0, zpx1, zpx2, zpx3, zpx4⟩ := gx.zs
  obtain ⟨zpy0, zpy1, zpy2, zpy3, zpy4⟩ := gy.zs
  clear c0 c1 c2 c3 c4 e0 e1 px0 px1 px2 px3 px4 py0 py1 py2 py3 py4 gS gx gy
  clear hw1
  refine wp_region_bel (by kernel_rfl) (by kernel_rfl) ?_
  repeat (go_big_quiet_step (first
    | (go_at_call 76; with_reducible exact Bel.calls (fun W hW => Hx.out W (btO HW1.out hW)) _)))
  refine wpQuiet_nil ?_
  rintro _ ⟨zz, rfl⟩
  clear zc0 zc1 zc2 zc3 zc4 ze0 ze1 zpx0 zpx1 zpx2 zpx3 zpx4 zpy0 zpy1 zpy2 zpy3 zpy4
  have HW2 := Lib.hid (btO HW1.out zz.2)
  generalize zz.1 = w2 at *
  obtain ⟨⟨c0, c1, c2, c3, c4, e0, e1⟩, ⟨px0, px1, px2, px3, px4⟩, ⟨py0, py1, py2, py3, py4⟩⟩ := HG.out _ HW2.out
  go_wp2_with (fail)
  all_goals go_ret2
  all_goals exact ⟨rfl, btO HB.out HW2.out⟩
set_option maxRecDepth 100000 in
set_option maxHeartbeats 6400000 in
theorem rhel_13l (bb : Bool) (ea : Int) (rr nn : ByteArray) (dd : Int) (A : Option Addr) (c : Nat) (x y : Ex) (E : Ev) (day : Int) (w : World) (hin : Ex.In w (.mk 13 rr nn dd A c [x, y])) (hE : E.In w) (hx : ∀ W, x.In W → E.In W → Calls Tryz.prog 76 #[x.val, .int .i64 day, E.val] W (fun e w' => e = .returned (.tuple #[.bool true, .int .i64 0]) ∧ Below W.heap.size W w')) (hy : ∀ W, y.In W → E.In W → Calls Tryz.prog 76 #[y.val, .int .i64 day, E.val] W (fun e w' => e = .returned (.tuple #[.bool bb, .int .i64 ea]) ∧ Below W.heap.size W w')) :
    Calls Tryz.prog 76 #[Ex.val (.mk 13 rr nn dd A c [x, y]), .int .i64 day, E.val] w (TrE bb ea w) := by
  obtain ⟨b, o, rfl, ix, qx, iy, qy⟩ := hin.ptc2
  obtain ⟨fA, fs, fc, cA, cs, cc⟩ := E
  obtain ⟨w1, hw1, hB, hS⟩ := rv_begin w 13 rr nn dd (some ⟨b, o, none⟩) 2 c fA fs.length fc cA cs.length cc
  have HB := Lib.hid hB
  have HG := Lib.hid (fun W (hW : Below w1.heap.size w1 W) => And.intro (hS.below hW) (And.intro (qx.below (btO hB hW)) (qy.below (btO hB hW))))
  have Hx := Lib.hid (fun W (hW : Below w1.heap.size w1 W) => hx W (ix.below (btO hB hW)) (hE.below (btO hB hW)))
  have Hy := Lib.hid (fun W (hW : Below w1.heap.size w1 W) => hy W (iy.below (btO hB hW)) (hE.below (btO hB hW)))
  have HW1 := Lib.hid (Below.refl w1.heap.size w1)
  show Calls Tryz.prog 76 #[.agg #[.int .u8 13, .string rr, .string nn, .int .i64 dd, .slice (some ⟨b, o, none⟩) 2 c], .int .i64 day, .agg #[.slice fA fs.length fc, .slice cA cs.length cc]] w _
  clear hin hE hB hS hx hy ix iy qx qy
  obtain ⟨⟨c0, c1, c2, c3, c4, e0, e1⟩, ⟨px0, px1, px2, px3, px4⟩, ⟨py0, py1, py2, py3, py4⟩⟩ := HG.out _ HW1.out
  go_enter Tryz.func76, Tryz.ntmps76
  go_wp2_with (fail)
  obtain ⟨gS, gx, gy⟩ := HG.out _ HW1.out
  obtain ⟨zc0, zc1, zc2, zc3, zc4, ze0, ze1⟩ := gS.zs
  obtain ⟨zpx0, zpx1, zpx2, zpx3, zpx4⟩ := gx.zs
  obtain ⟨zpy0, zpy1, zpy2, zpy3, zpy4⟩ := gy.zs
  clear c0 c1 c2 c3 c4 e0 e1 px0 px1 px2 px3 px4 py0 py1 py2 py3 py4 gS gx gy
  clear hw1
  refine wp_region_bel (by kernel_rfl) (by kernel_rfl) ?_
  repeat (go_big_quiet_step (first
    | (go_at_call 76; with_reducible exact Bel.calls (fun W hW => Hx.out W (btO HW1.out hW)) _)))
  refine wpQuiet_nil ?_
  rintro _ ⟨zz, rfl⟩
  clear zc0 zc1 zc2 zc3 zc4 ze0 ze1 zpx0 zpx1 zpx2 zpx3 zpx4 zpy0 zpy1 zpy2 zpy3 zpy4
  have HW2 := Lib.hid (btO HW1.out zz.2)
  generalize zz.1 = w2 at *
  obtain ⟨⟨c0, c1, c2, c3, c4, e0, e1⟩, ⟨px0, px1, px2, px3, px4⟩, ⟨py0, py1, py2, py3, py4⟩⟩ := HG.out _ HW2.out
  go_wp2_with (fail)
  obtain ⟨gS, gx, gy⟩ := HG.out _ HW2.out
  obtain ⟨zc0, zc1, zc2, zc3, zc4, ze0, ze1⟩ := gS.zs
  obtain ⟨zpx0, zpx1, zpx2, zpx3, zpx4⟩ := gx.zs
  obtain ⟨zpy0, zpy1, zpy2, zpy3, zpy4⟩ := gy.zs
  clear c0 c1 c2 c3 c4 e0 e1 px0 px1 px2 px3 px4 py0 py1 py2 py3 py4 gS gx gy
  refine wp_region_bel (by kernel_rfl) (by kernel_rfl) ?_
  repeat (go_big_quiet_step (first
    | (go_at_call 76; with_reducible exact Bel.calls (fun W hW => Hy.out W (btO HW2.out hW)) _)))
  refine wpQuiet_nil ?_
  rintro _ ⟨zz, rfl⟩
  clear zc0 zc1 zc2 zc3 zc4 ze0 ze1 zpx0 zpx1 zpx2 zpx3 zpx4 zpy0 zpy1 zpy2 zpy3 zpy4
  have HW3 := Lib.hid (btO HW2.out zz.2)
  generalize zz.1 = w3 at *
  obtain ⟨⟨c0, c1, c2, c3, c4, e0, e1⟩, ⟨px0, px1, px2, px3, px4⟩, ⟨py0, py1, py2, py3, py4⟩⟩ := HG.out _ HW3.out
  go_wp2_with (fail)
  all_goals go_ret2
  all_goals exact ⟨rfl, btO HB.out HW3.out⟩
set_option maxRecDepth 100000 in
set_option maxHeartbeats 6400000 in
theorem rhel_14s (rr nn : ByteArray) (dd : Int) (A : Option Addr) (c : Nat) (x y : Ex) (E : Ev) (day : Int) (w : World) (hin : Ex.In w (.mk 14 rr nn dd A c [x, y])) (hE : E.In w) (hx : ∀ W, x.In W → E.In W → Calls Tryz.prog 76 #[x.val, .int .i64 day, E.val] W (fun e w' => e = .returned (.tuple #[.bool true, .int .i64 0]) ∧ Below W.heap.size W w')) :
    Calls Tryz.prog 76 #[Ex.val (.mk 14 rr nn dd A c [x, y]), .int .i64 day, E.val] w (TrE true 0 w) := by
  obtain ⟨b, o, rfl, ix, qx, iy, qy⟩ := hin.ptc2
  obtain ⟨fA, fs, fc, cA, cs, cc⟩ := E
  obtain ⟨w1, hw1, hB, hS⟩ := rv_begin w 14 rr nn dd (some ⟨b, o, none⟩) 2 c fA fs.length fc cA cs.length cc
  have HB := Lib.hid hB
  have HG := Lib.hid (fun W (hW : Below w1.heap.size w1 W) => And.intro (hS.below hW) (And.intro (qx.below (btO hB hW)) (qy.below (btO hB hW))))
  have Hx := Lib.hid (fun W (hW : Below w1.heap.size w1 W) => hx W (ix.below (btO hB hW)) (hE.below (btO hB hW)))
  have HW1 := Lib.hid (Below.refl w1.heap.size w1)
  show Calls Tryz.prog 76 #[.agg #[.int .u8 14, .string rr, .string nn, .int .i64 dd, .slice (some ⟨b, o, none⟩) 2 c], .int .i64 day, .agg #[.slice fA fs.length fc, .slice cA cs.length cc]] w _
  clear hin hE hB hS hx ix iy qx qy
  obtain ⟨⟨c0, c1, c2, c3, c4, e0, e1⟩, ⟨px0, px1, px2, px3, px4⟩, ⟨py0, py1, py2, py3, py4⟩⟩ := HG.out _ HW1.out
  go_enter Tryz.func76, Tryz.ntmps76
  go_wp2_with (fail)
  obtain ⟨gS, gx, gy⟩ := HG.out _ HW1.out
  obtain ⟨zc0, zc1, zc2, zc3, zc4, ze0, ze1⟩ := gS.zs
  obtain ⟨zpx0, zpx1, zpx2, zpx3, zpx4⟩ := gx.zs
  obtain ⟨zpy0, zpy1, zpy2, zpy3, zpy4⟩ := gy.zs
  clear c0 c1 c2 c3 c4 e0 e1 px0 px1 px2 px3 px4 py0 py1 py2 py3 py4 gS gx gy
  clear hw1
  refine wp_region_bel (by kernel_rfl) (by kernel_rfl) ?_
  repeat (go_big_quiet_step (first
    | (go_at_call 76; with_reducible exact Bel.calls (fun W hW => Hx.out W (btO HW1.out hW)) _)))
  refine wpQuiet_nil ?_
  rintro _ ⟨zz, rfl⟩
  clear zc0 zc1 zc2 zc3 zc4 ze0 ze1 zpx0 zpx1 zpx2 zpx3 zpx4 zpy0 zpy1 zpy2 zpy3 zpy4
  have HW2 := Lib.hid (btO HW1.out zz.2)
  generalize zz.1 = w2 at *
  obtain ⟨⟨c0, c1, c2, c3, c4, e0, e1⟩, ⟨px0, px1, px2, px3, px4⟩, ⟨py0, py1, py2, py3, py4⟩⟩ := HG.out _ HW2.out
  go_wp2_with (fail)
  all_goals go_ret2
  all_goals exact ⟨rfl, btO HB.out HW2.out⟩
set_option maxRecDepth 100000 in
set_option maxHeartbeats 6400000 in
theorem rhel_14l (bb : Bool) (ea : Int) (rr nn : ByteArray) (dd : Int) (A : Option Addr) (c : Nat) (x y : Ex) (E : Ev) (day : Int) (w : World) (hin : Ex.In w (.mk 14 rr nn dd A c [x, y])) (hE : E.In w) (hx : ∀ W, x.In W → E.In W → Calls Tryz.prog 76 #[x.val, .int .i64 day, E.val] W (fun e w' => e = .returned (.tuple #[.bool false, .int .i64 0]) ∧ Below W.heap.size W w')) (hy : ∀ W, y.In W → E.In W → Calls Tryz.prog 76 #[y.val, .int .i64 day, E.val] W (fun e w' => e = .returned (.tuple #[.bool bb, .int .i64 ea]) ∧ Below W.heap.size W w')) :
    Calls Tryz.prog 76 #[Ex.val (.mk 14 rr nn dd A c [x, y]), .int .i64 day, E.val] w (TrE bb ea w) := by
  obtain ⟨b, o, rfl, ix, qx, iy, qy⟩ := hin.ptc2
  obtain ⟨fA, fs, fc, cA, cs, cc⟩ := E
  obtain ⟨w1, hw1, hB, hS⟩ := rv_begin w 14 rr nn dd (some ⟨b, o, none⟩) 2 c fA fs.length fc cA cs.length cc
  have HB := Lib.hid hB
  have HG := Lib.hid (fun W (hW : Below w1.heap.size w1 W) => And.intro (hS.below hW) (And.intro (qx.below (btO hB hW)) (qy.below (btO hB hW))))
  have Hx := Lib.hid (fun W (hW : Below w1.heap.size w1 W) => hx W (ix.below (btO hB hW)) (hE.below (btO hB hW)))
  have Hy := Lib.hid (fun W (hW : Below w1.heap.size w1 W) => hy W (iy.below (btO hB hW)) (hE.below (btO hB hW)))
  have HW1 := Lib.hid (Below.refl w1.heap.size w1)
  show Calls Tryz.prog 76 #[.agg #[.int .u8 14, .string rr, .string nn, .int .i64 dd, .slice (some ⟨b, o, none⟩) 2 c], .int .i64 day, .agg #[.slice fA fs.length fc, .slice cA cs.length cc]] w _
  clear hin hE hB hS hx hy ix iy qx qy
  obtain ⟨⟨c0, c1, c2, c3, c4, e0, e1⟩, ⟨px0, px1, px2, px3, px4⟩, ⟨py0, py1, py2, py3, py4⟩⟩ := HG.out _ HW1.out
  go_enter Tryz.func76, Tryz.ntmps76
  go_wp2_with (fail)
  obtain ⟨gS, gx, gy⟩ := HG.out _ HW1.out
  obtain ⟨zc0, zc1, zc2, zc3, zc4, ze0, ze1⟩ := gS.zs
  obtain ⟨zpx0, zpx1, zpx2, zpx3, zpx4⟩ := gx.zs
  obtain ⟨zpy0, zpy1, zpy2, zpy3, zpy4⟩ := gy.zs
  clear c0 c1 c2 c3 c4 e0 e1 px0 px1 px2 px3 px4 py0 py1 py2 py3 py4 gS gx gy
  clear hw1
  refine wp_region_bel (by kernel_rfl) (by kernel_rfl) ?_
  repeat (go_big_quiet_step (first
    | (go_at_call 76; with_reducible exact Bel.calls (fun W hW => Hx.out W (btO HW1.out hW)) _)))
  refine wpQuiet_nil ?_
  rintro _ ⟨zz, rfl⟩
  clear zc0 zc1 zc2 zc3 zc4 ze0 ze1 zpx0 zpx1 zpx2 zpx3 zpx4 zpy0 zpy1 zpy2 zpy3 zpy4
  have HW2 := Lib.hid (btO HW1.out zz.2)
  generalize zz.1 = w2 at *
  obtain ⟨⟨c0, c1, c2, c3, c4, e0, e1⟩, ⟨px0, px1, px2, px3, px4⟩, ⟨py0, py1, py2, py3, py4⟩⟩ := HG.out _ HW2.out
  go_wp2_with (fail)
  obtain ⟨gS, gx, gy⟩ := HG.out _ HW2.out
  obtain ⟨zc0, zc1, zc2, zc3, zc4, ze0, ze1⟩ := gS.zs
  obtain ⟨zpx0, zpx1, zpx2, zpx3, zpx4⟩ := gx.zs
  obtain ⟨zpy0, zpy1, zpy2, zpy3, zpy4⟩ := gy.zs
  clear c0 c1 c2 c3 c4 e0 e1 px0 px1 px2 px3 px4 py0 py1 py2 py3 py4 gS gx gy
  refine wp_region_bel (by kernel_rfl) (by kernel_rfl) ?_
  repeat (go_big_quiet_step (first
    | (go_at_call 76; with_reducible exact Bel.calls (fun W hW => Hy.out W (btO HW2.out hW)) _)))
  refine wpQuiet_nil ?_
  rintro _ ⟨zz, rfl⟩
  clear zc0 zc1 zc2 zc3 zc4 ze0 ze1 zpx0 zpx1 zpx2 zpx3 zpx4 zpy0 zpy1 zpy2 zpy3 zpy4
  have HW3 := Lib.hid (btO HW2.out zz.2)
  generalize zz.1 = w3 at *
  obtain ⟨⟨c0, c1, c2, c3, c4, e0, e1⟩, ⟨px0, px1, px2, px3, px4⟩, ⟨py0, py1, py2, py3, py4⟩⟩ := HG.out _ HW3.out
  go_wp2_with (fail)
  all_goals go_ret2
  all_goals exact ⟨rfl, btO HB.out HW3.out⟩
set_option maxRecDepth 100000 in
set_option maxHeartbeats 6400000 in
theorem rhel_c1 (kk : Int) (k13 : ¬ 13 ≤ kk) (va : ByteArray) (ea : Int) (rr nn : ByteArray) (dd : Int) (A : Option Addr) (c : Nat) (x y : Ex) (E : Ev) (day : Int) (w : World) (hin : Ex.In w (.mk kk rr nn dd A c [x, y])) (hE : E.In w) (hx : ∀ W, x.In W → E.In W → Calls Tryz.prog 75 #[x.val, .int .i64 day, E.val] W (fun e w' => e = .returned (.tuple #[.string va, .int .i64 ea]) ∧ Below W.heap.size W w')) (hea : (ea != 0) = true) :
    Calls Tryz.prog 76 #[Ex.val (.mk kk rr nn dd A c [x, y]), .int .i64 day, E.val] w (TrE false ea w) := by
  obtain ⟨b, o, rfl, ix, qx, iy, qy⟩ := hin.ptc2
  obtain ⟨fA, fs, fc, cA, cs, cc⟩ := E
  obtain ⟨w1, hw1, hB, hS⟩ := rv_begin w kk rr nn dd (some ⟨b, o, none⟩) 2 c fA fs.length fc cA cs.length cc
  have HB := Lib.hid hB
  have HG := Lib.hid (fun W (hW : Below w1.heap.size w1 W) => And.intro (hS.below hW) (And.intro (qx.below (btO hB hW)) (qy.below (btO hB hW))))
  have Hx := Lib.hid (fun W (hW : Below w1.heap.size w1 W) => hx W (ix.below (btO hB hW)) (hE.below (btO hB hW)))
  have HW1 := Lib.hid (Below.refl w1.heap.size w1)
  show Calls Tryz.prog 76 #[.agg #[.int .u8 kk, .string rr, .string nn, .int .i64 dd, .slice (some ⟨b, o, none⟩) 2 c], .int .i64 day, .agg #[.slice fA fs.length fc, .slice cA cs.length cc]] w _
  clear hin hE hB hS hx ix iy qx qy
  obtain ⟨⟨c0, c1, c2, c3, c4, e0, e1⟩, ⟨px0, px1, px2, px3, px4⟩, ⟨py0, py1, py2, py3, py4⟩⟩ := HG.out _ HW1.out
  go_enter Tryz.func76, Tryz.ntmps76
  go_wp2_with (fail)
  obtain ⟨gS, gx, gy⟩ := HG.out _ HW1.out
  obtain ⟨zc0, zc1, zc2, zc3, zc4, ze0, ze1⟩ := gS.zs
  obtain ⟨zpx0, zpx1, zpx2, zpx3, zpx4⟩ := gx.zs
  obtain ⟨zpy0, zpy1, zpy2, zpy3, zpy4⟩ := gy.zs
  clear c0 c1 c2 c3 c4 e0 e1 px0 px1 px2 px3 px4 py0 py1 py2 py3 py4 gS gx gy
  clear hw1
  refine wp_region_bel (by kernel_rfl) (by kernel_rfl) ?_
  repeat (go_big_quiet_step (first
    | (go_at_call 75; with_reducible exact Bel.calls (fun W hW => Hx.out W (btO HW1.out hW)) _)))
  refine wpQuiet_nil ?_
  rintro _ ⟨zz, rfl⟩
  clear zc0 zc1 zc2 zc3 zc4 ze0 ze1 zpx0 zpx1 zpx2 zpx3 zpx4 zpy0 zpy1 zpy2 zpy3 zpy4
  have HW2 := Lib.hid (btO HW1.out zz.2)
  generalize zz.1 = w2 at *
  obtain ⟨⟨c0, c1, c2, c3, c4, e0, e1⟩, ⟨px0, px1, px2, px3, px4⟩, ⟨py0, py1, py2, py3, py4⟩⟩ := HG.out _ HW2.out
  go_wp2_with (fail)
  all_goals go_ret2
  all_goals exact ⟨rfl, btO HB.out HW2.out⟩
set_option maxRecDepth 100000 in
set_option maxHeartbeats 6400000 in
theorem rhel_c2 (kk : Int) (k13 : ¬ 13 ≤ kk) (va vb : ByteArray) (ea : Int) (rr nn : ByteArray) (dd : Int) (A : Option Addr) (c : Nat) (x y : Ex) (E : Ev) (day : Int) (w : World) (hin : Ex.In w (.mk kk rr nn dd A c [x, y])) (hE : E.In w) (hx : ∀ W, x.In W → E.In W → Calls Tryz.prog 75 #[x.val, .int .i64 day, E.val] W (fun e w' => e = .returned (.tuple #[.string va, .int .i64 0]) ∧ Below W.heap.size W w')) (hy : ∀ W, y.In W → E.In W → Calls Tryz.prog 75 #[y.val, .int .i64 day, E.val] W (fun e w' => e = .returned (.tuple #[.string vb, .int .i64 ea]) ∧ Below W.heap.size W w')) (hea : (ea != 0) = true) :
    Calls Tryz.prog 76 #[Ex.val (.mk kk rr nn dd A c [x, y]), .int .i64 day, E.val] w (TrE false ea w) := by
  obtain ⟨b, o, rfl, ix, qx, iy, qy⟩ := hin.ptc2
  obtain ⟨fA, fs, fc, cA, cs, cc⟩ := E
  obtain ⟨w1, hw1, hB, hS⟩ := rv_begin w kk rr nn dd (some ⟨b, o, none⟩) 2 c fA fs.length fc cA cs.length cc
  have HB := Lib.hid hB
  have HG := Lib.hid (fun W (hW : Below w1.heap.size w1 W) => And.intro (hS.below hW) (And.intro (qx.below (btO hB hW)) (qy.below (btO hB hW))))
  have Hx := Lib.hid (fun W (hW : Below w1.heap.size w1 W) => hx W (ix.below (btO hB hW)) (hE.below (btO hB hW)))
  have Hy := Lib.hid (fun W (hW : Below w1.heap.size w1 W) => hy W (iy.below (btO hB hW)) (hE.below (btO hB hW)))
  have HW1 := Lib.hid (Below.refl w1.heap.size w1)
  show Calls Tryz.prog 76 #[.agg #[.int .u8 kk, .string rr, .string nn, .int .i64 dd, .slice (some ⟨b, o, none⟩) 2 c], .int .i64 day, .agg #[.slice fA fs.length fc, .slice cA cs.length cc]] w _
  clear hin hE hB hS hx hy ix iy qx qy
  obtain ⟨⟨c0, c1, c2, c3, c4, e0, e1⟩, ⟨px0, px1, px2, px3, px4⟩, ⟨py0, py1, py2, py3, py4⟩⟩ := HG.out _ HW1.out
  go_enter Tryz.func76, Tryz.ntmps76
  go_wp2_with (fail)
  obtain ⟨gS, gx, gy⟩ := HG.out _ HW1.out
  obtain ⟨zc0, zc1, zc2, zc3, zc4, ze0, ze1⟩ := gS.zs
  obtain ⟨zpx0, zpx1, zpx2, zpx3, zpx4⟩ := gx.zs
  obtain ⟨zpy0, zpy1, zpy2, zpy3, zpy4⟩ := gy.zs
  clear c0 c1 c2 c3 c4 e0 e1 px0 px1 px2 px3 px4 py0 py1 py2 py3 py4 gS gx gy
  clear hw1
  refine wp_region_bel (by kernel_rfl) (by kernel_rfl) ?_
  repeat (go_big_quiet_step (first
    | (go_at_call 75; with_reducible exact Bel.calls (fun W hW => Hx.out W (btO HW1.out hW)) _)))
  refine wpQuiet_nil ?_
  rintro _ ⟨zz, rfl⟩
  clear zc0 zc1 zc2 zc3 zc4 ze0 ze1 zpx0 zpx1 zpx2 zpx3 zpx4 zpy0 zpy1 zpy2 zpy3 zpy4
  have HW2 := Lib.hid (btO HW1.out zz.2)
  generalize zz.1 = w2 at *
  obtain ⟨⟨c0, c1, c2, c3, c4, e0, e1⟩, ⟨px0, px1, px2, px3, px4⟩, ⟨py0, py1, py2, py3, py4⟩⟩ := HG.out _ HW2.out
  go_wp2_with (fail)
  obtain ⟨gS, gx, gy⟩ := HG.out _ HW2.out
  obtain ⟨zc0, zc1, zc2, zc3, zc4, ze0, ze1⟩ := gS.zs
  obtain ⟨zpx0, zpx1, zpx2, zpx3, zpx4⟩ := gx.zs
  obtain ⟨zpy0, zpy1, zpy2, zpy3, zpy4⟩ := gy.zs
  clear c0 c1 c2 c3 c4 e0 e1 px0 px1 px2 px3 px4 py0 py1 py2 py3 py4 gS gx gy
  refine wp_region_bel (by kernel_rfl) (by kernel_rfl) ?_
  repeat (go_big_quiet_step (first
    | (go_at_call 75; with_reducible exact Bel.calls (fun W hW => Hy.out W (btO HW2.out hW)) _)))
  refine wpQuiet_nil ?_
  rintro _ ⟨zz, rfl⟩
  clear zc0 zc1 zc2 zc3 zc4 ze0 ze1 zpx0 zpx1 zpx2 zpx3 zpx4 zpy0 zpy1 zpy2 zpy3 zpy4
  have HW3 := Lib.hid (btO HW2.out zz.2)
  generalize zz.1 = w3 at *
  obtain ⟨⟨c0, c1, c2, c3, c4, e0, e1⟩, ⟨px0, px1, px2, px3, px4⟩, ⟨py0, py1, py2, py3, py4⟩⟩ := HG.out _ HW3.out
  go_wp2_with (fail)
  all_goals go_ret2
  all_goals exact ⟨rfl, btO HB.out HW3.out⟩
set_option maxRecDepth 100000 in
set_option maxHeartbeats 6400000 in
theorem rhel_cmp (kk : Int) (k13 : ¬ 13 ≤ kk) (va vb : ByteArray) (r g : Int) (V : Bool) (rr nn : ByteArray) (dd : Int) (A : Option Addr) (c : Nat) (x y : Ex) (E : Ev) (day : Int) (w : World) (hin : Ex.In w (.mk kk rr nn dd A c [x, y])) (hE : E.In w) (hx : ∀ W, x.In W → E.In W → Calls Tryz.prog 75 #[x.val, .int .i64 day, E.val] W (fun e w' => e = .returned (.tuple #[.string va, .int .i64 0]) ∧ Below W.heap.size W w')) (hy : ∀ W, y.In W → E.In W → Calls Tryz.prog 75 #[y.val, .int .i64 day, E.val] W (fun e w' => e = .returned (.tuple #[.string vb, .int .i64 0]) ∧ Below W.heap.size W w')) (ho : ∀ W, Calls Tryz.prog 114 #[.string va, .string vb] W (CmE r g W)) (key : ((g != 0) = true ∧ V = false) ∨ (kk = 11 ∧ g = 0 ∧ decide (r < 0) = true ∧ V = true) ∨ (kk = 11 ∧ g = 0 ∧ decide (r < 0) = false ∧ V = false) ∨ (kk = 12 ∧ g = 0 ∧ (r == 0) = true ∧ V = true) ∨ (kk = 12 ∧ g = 0 ∧ (r == 0) = false ∧ V = false)) :
    Calls Tryz.prog 76 #[Ex.val (.mk kk rr nn dd A c [x, y]), .int .i64 day, E.val] w (TrE V g w) := by
  obtain ⟨b, o, rfl, ix, qx, iy, qy⟩ := hin.ptc2
  obtain ⟨fA, fs, fc, cA, cs, cc⟩ := E
  obtain ⟨w1, hw1, hB, hS⟩ := rv_begin w kk rr nn dd (some ⟨b, o, none⟩) 2 c fA fs.length fc cA cs.length cc
  have HB := Lib.hid hB
  have HG := Lib.hid (fun W (hW : Below w1.heap.size w1 W) => And.intro (hS.below hW) (And.intro (qx.below (btO hB hW)) (qy.below (btO hB hW))))
  have Hx := Lib.hid (fun W (hW : Below w1.heap.size w1 W) => hx W (ix.below (btO hB hW)) (hE.below (btO hB hW)))
  have Hy := Lib.hid (fun W (hW : Below w1.heap.size w1 W) => hy W (iy.below (btO hB hW)) (hE.below (btO hB hW)))
  have HO := Lib.hid ho
  clear ho
  have HW1 := Lib.hid (Below.refl w1.heap.size w1)
  show Calls Tryz.prog 76 #[.agg #[.int .u8 kk, .string rr, .string nn, .int .i64 dd, .slice (some ⟨b, o, none⟩) 2 c], .int .i64 day, .agg #[.slice fA fs.length fc, .slice cA cs.length cc]] w _
  clear hin hE hB hS hx hy ix iy qx qy
  rcases key with ⟨q, rfl⟩ | ⟨rfl, rfl, hr, rfl⟩ | ⟨rfl, rfl, hr, rfl⟩ | ⟨rfl, rfl, hr, rfl⟩ | ⟨rfl, rfl, hr, rfl⟩
  all_goals (
    obtain ⟨⟨c0, c1, c2, c3, c4, e0, e1⟩, ⟨px0, px1, px2, px3, px4⟩, ⟨py0, py1, py2, py3, py4⟩⟩ := HG.out _ HW1.out
    go_enter Tryz.func76, Tryz.ntmps76
    go_wp2_with (fail)
    obtain ⟨gS, gx, gy⟩ := HG.out _ HW1.out
    obtain ⟨zc0, zc1, zc2, zc3, zc4, ze0, ze1⟩ := gS.zs
    obtain ⟨zpx0, zpx1, zpx2, zpx3, zpx4⟩ := gx.zs
    obtain ⟨zpy0, zpy1, zpy2, zpy3, zpy4⟩ := gy.zs
    clear c0 c1 c2 c3 c4 e0 e1 px0 px1 px2 px3 px4 py0 py1 py2 py3 py4 gS gx gy
    clear hw1
    refine wp_region_bel (by kernel_rfl) (by kernel_rfl) ?_
    repeat (go_big_quiet_step (first
      | (go_at_call 75; with_reducible exact Bel.calls (fun W hW => Hx.out W (btO HW1.out hW)) _)))
    refine wpQuiet_nil ?_
    rintro _ ⟨zz, rfl⟩
    clear zc0 zc1 zc2 zc3 zc4 ze0 ze1 zpx0 zpx1 zpx2 zpx3 zpx4 zpy0 zpy1 zpy2 zpy3 zpy4
    have HW2 := Lib.hid (btO HW1.out zz.2)
    generalize zz.1 = w2 at *
    obtain ⟨⟨c0, c1, c2, c3, c4, e0, e1⟩, ⟨px0, px1, px2, px3, px4⟩, ⟨py0, py1, py2, py3, py4⟩⟩ := HG.out _ HW2.out
    go_wp2_with (fail)
    obtain ⟨gS, gx, gy⟩ := HG.out _ HW2.out
    obtain ⟨zc0, zc1, zc2, zc3, zc4, ze0, ze1⟩ := gS.zs
    obtain ⟨zpx0, zpx1, zpx2, zpx3, zpx4⟩ := gx.zs
    obtain ⟨zpy0, zpy1, zpy2, zpy3, zpy4⟩ := gy.zs
    clear c0 c1 c2 c3 c4 e0 e1 px0 px1 px2 px3 px4 py0 py1 py2 py3 py4 gS gx gy
    refine wp_region_bel (by kernel_rfl) (by kernel_rfl) ?_
    repeat (go_big_quiet_step (first
      | (go_at_call 75; with_reducible exact Bel.calls (fun W hW => Hy.out W (btO HW2.out hW)) _)))
    refine wpQuiet_nil ?_
    rintro _ ⟨zz, rfl⟩
    clear zc0 zc1 zc2 zc3 zc4 ze0 ze1 zpx0 zpx1 zpx2 zpx3 zpx4 zpy0 zpy1 zpy2 zpy3 zpy4
    have HW3 := Lib.hid (btO HW2.out zz.2)
    generalize zz.1 = w3 at *
    obtain ⟨⟨c0, c1, c2, c3, c4, e0, e1⟩, ⟨px0, px1, px2, px3, px4⟩, ⟨py0, py1, py2, py3, py4⟩⟩ := HG.out _ HW3.out
    go_wp2_with ((go_at_call 114; ((with_reducible refine (HO.out _).mono ?_); rintro x wF ⟨rfl, hb⟩; have HWF := Lib.hid (btO HW3.out hb); obtain ⟨⟨c0, c1, c2, c3, c4, e0, e1⟩, -⟩ := HG.out _ HWF.out; clear hb)))
    all_goals go_ret2
    all_goals exact ⟨rfl, btO HB.out HWF.out⟩)
end Go.Proofs.YtceooffedkalnaaGreatDoor
/- Layer 8: Valued and Held of the reference. -/
namespace Go.Proofs.YtceooffedkalnaaGreatDoor
open Go Go.RowKit
theorem ne_decO {e : Int} (h : ¬ e = 0) : (e != 0) = true := bne_iff_ne.2 h
theorem opN_key (k : Int) (hk : k = 4 ∨ k = 5 ∨ k = 6 ∨ k = 7 ∨ k = 8) (va vb : ByteArray) (hX : va.size ≤ 1048576) (hY : vb.size ≤ 1048576) :
    (k = 4 ∧ (opN k va vb).2 = 0 ∧ Hid (∀ W, Calls Tryz.prog 111 #[.string va, .string vb] W (StE (opN k va vb).1 (opN k va vb).2 W))) ∨ (k = 4 ∧ ((opN k va vb).2 != 0) = true ∧ (opN k va vb).1 = ⟨#[]⟩ ∧ Hid (∀ W, Calls Tryz.prog 111 #[.string va, .string vb] W (StE (opN k va vb).1 (opN k va vb).2 W))) ∨ (k = 5 ∧ (opN k va vb).2 = 0 ∧ Hid (∀ W, Calls Tryz.prog 112 #[.string va, .string vb] W (StE (opN k va vb).1 (opN k va vb).2 W))) ∨ (k = 5 ∧ ((opN k va vb).2 != 0) = true ∧ (opN k va vb).1 = ⟨#[]⟩ ∧ Hid (∀ W, Calls Tryz.prog 112 #[.string va, .string vb] W (StE (opN k va vb).1 (opN k va vb).2 W))) ∨ (k = 6 ∧ (opN k va vb).2 = 0 ∧ Hid (∀ W, Calls Tryz.prog 113 #[.string va, .string vb] W (StE (opN k va vb).1 (opN k va vb).2 W))) ∨ (k = 6 ∧ ((opN k va vb).2 != 0) = true ∧ (opN k va vb).1 = ⟨#[]⟩ ∧ Hid (∀ W, Calls Tryz.prog 113 #[.string va, .string vb] W (StE (opN k va vb).1 (opN k va vb).2 W))) ∨ (k = 7 ∧ (opN k va vb).2 = 0 ∧ ¬ twK va.data.toList vb.data.toList < 0 ∧ (opN k va vb).1 = va ∧ Hid (∀ W, Calls Tryz.prog 114 #[.string va, .string vb] W (CmE (twK va.data.toList vb.data.toList) (opN k va vb).2 W))) ∨ (k = 7 ∧ (opN k va vb).2 = 0 ∧ twK va.data.toList vb.data.toList < 0 ∧ (opN k va vb).1 = vb ∧ Hid (∀ W, Calls Tryz.prog 114 #[.string va, .string vb] W (CmE (twK va.data.toList vb.data.toList) (opN k va vb).2 W))) ∨ (k = 7 ∧ ((opN k va vb).2 != 0) = true ∧ (opN k va vb).1 = ⟨#[]⟩ ∧ Hid (∀ W, Calls Tryz.prog 114 #[.string va, .string vb] W (CmE (twK va.data.toList vb.data.toList) (opN k va vb).2 W))) ∨ (k = 8 ∧ (opN k va vb).2 = 0 ∧ ¬ 0 < twK va.data.toList vb.data.toList ∧ (opN k va vb).1 = va ∧ Hid (∀ W, Calls Tryz.prog 114 #[.string va, .string vb] W (CmE (twK va.data.toList vb.data.toList) (opN k va vb).2 W))) ∨ (k = 8 ∧ (opN k va vb).2 = 0 ∧ 0 < twK va.data.toList vb.data.toList ∧ (opN k va vb).1 = vb ∧ Hid (∀ W, Calls Tryz.prog 114 #[.string va, .string vb] W (CmE (twK va.data.toList vb.data.toList) (opN k va vb).2 W))) ∨ (k = 8 ∧ ((opN k va vb).2 != 0) = true ∧ (opN k va vb).1 = ⟨#[]⟩ ∧ Hid (∀ W, Calls Tryz.prog 114 #[.string va, .string vb] W (CmE (twK va.data.toList vb.data.toList) (opN k va vb).2 W))) := by
  have e := opN_err k va vb
  rcases hk with rfl | rfl | rfl | rfl | rfl
  · have ho := fun W => refradd_any va vb hX hY W
    by_cases h : (opN 4 va vb).2 = 0
    · exact .inl ⟨rfl, h, ho⟩
    · exact .inr (.inl ⟨rfl, ne_decO h, e h, ho⟩)
  · have ho := fun W => refrsub_any va vb hX hY W
    by_cases h : (opN 5 va vb).2 = 0
    · exact .inr (.inr (.inl ⟨rfl, h, ho⟩))
    · exact .inr (.inr (.inr (.inl ⟨rfl, ne_decO h, e h, ho⟩)))
  · have ho := fun W => refrmul_any va vb hX hY W
    by_cases h : (opN 6 va vb).2 = 0
    · exact .inr (.inr (.inr (.inr (.inl ⟨rfl, h, ho⟩))))
    · exact .inr (.inr (.inr (.inr (.inr (.inl ⟨rfl, ne_decO h, e h, ho⟩)))))
  all_goals have ho := fun W => refrcompare_any va vb hX hY W
  all_goals clear e
  · refine .inr (.inr (.inr (.inr (.inr (.inr ?_)))))
    have q : opN 7 va vb = if twC comC va.data.toList vb.data.toList = 0 then (if ((7 : Int) = 7 ∧ twK va.data.toList vb.data.toList < 0) ∨ ((7 : Int) = 8 ∧ 0 < twK va.data.toList vb.data.toList) then vb else va, 0) else (⟨#[]⟩, twC comC va.data.toList vb.data.toList) := rfl
    rw [q]
    by_cases h : twC comC va.data.toList vb.data.toList = 0
    · rw [if_pos h]
      simp only [h] at ho
      by_cases hr : twK va.data.toList vb.data.toList < 0
      · rw [if_pos (.inl ⟨rfl, hr⟩)]
        exact .inr (.inl ⟨rfl, rfl, hr, rfl, ho⟩)
      · rw [if_neg (by rintro (⟨-, g⟩ | ⟨g, -⟩) <;> first | exact hr g | exact absurd g (by decide))]
        exact .inl ⟨rfl, rfl, hr, rfl, ho⟩
    · rw [if_neg h]
      exact .inr (.inr (.inl ⟨rfl, ne_decO h, rfl, ho⟩))
  · refine .inr (.inr (.inr (.inr (.inr (.inr (.inr (.inr (.inr ?_))))))))
    have q : opN 8 va vb = if twC comC va.data.toList vb.data.toList = 0 then (if ((8 : Int) = 7 ∧ twK va.data.toList vb.data.toList < 0) ∨ ((8 : Int) = 8 ∧ 0 < twK va.data.toList vb.data.toList) then vb else va, 0) else (⟨#[]⟩, twC comC va.data.toList vb.data.toList) := rfl
    rw [q]
    by_cases h : twC comC va.data.toList vb.data.toList = 0
    · rw [if_pos h]
      simp only [h] at ho
      by_cases hr : 0 < twK va.data.toList vb.data.toList
      · rw [if_pos (.inr ⟨rfl, hr⟩)]
        exact .inr (.inl ⟨rfl, rfl, hr, rfl, ho⟩)
      · rw [if_neg (by rintro (⟨g, -⟩ | ⟨-, g⟩) <;> first | exact absurd g (by decide) | exact hr g)]
        exact .inl ⟨rfl, rfl, hr, rfl, ho⟩
    · rw [if_neg h]
      exact .inr (.inr ⟨rfl, ne_decO h, rfl, ho⟩)
theorem cpT_snd (k : Int) (va vb : ByteArray) : (cpT k va vb).2 = twC comC va.data.toList vb.data.toList := by
  unfold cpT
  split
  · next h => exact h.symm
  · rfl
theorem cpT_key (k : Int) (hk : k = 11 ∨ k = 12) (va vb : ByteArray) :
    ((twC comC va.data.toList vb.data.toList != 0) = true ∧ (cpT k va vb).1 = false) ∨ (k = 11 ∧ twC comC va.data.toList vb.data.toList = 0 ∧ decide (twK va.data.toList vb.data.toList < 0) = true ∧ (cpT k va vb).1 = true) ∨ (k = 11 ∧ twC comC va.data.toList vb.data.toList = 0 ∧ decide (twK va.data.toList vb.data.toList < 0) = false ∧ (cpT k va vb).1 = false) ∨ (k = 12 ∧ twC comC va.data.toList vb.data.toList = 0 ∧ (twK va.data.toList vb.data.toList == 0) = true ∧ (cpT k va vb).1 = true) ∨ (k = 12 ∧ twC comC va.data.toList vb.data.toList = 0 ∧ (twK va.data.toList vb.data.toList == 0) = false ∧ (cpT k va vb).1 = false) := by
  unfold cpT
  by_cases h : twC comC va.data.toList vb.data.toList = 0
  · rw [if_pos h]
    generalize twK va.data.toList vb.data.toList = K at *
    rcases hk with rfl | rfl
    · by_cases hr : K < 0
      · exact .inr (.inl ⟨rfl, h, decide_eq_true hr, decide_eq_true (.inl ⟨rfl, hr⟩)⟩)
      · exact .inr (.inr (.inl ⟨rfl, h, decide_eq_false hr, decide_eq_false (by rintro (⟨-, g⟩ | ⟨g, -⟩) <;> first | exact hr g | exact absurd g (by decide))⟩))
    · by_cases hr : K = 0
      · exact .inr (.inr (.inr (.inl ⟨rfl, h, by simp [hr], decide_eq_true (.inr ⟨rfl, hr⟩)⟩)))
      · exact .inr (.inr (.inr (.inr ⟨rfl, h, by simp [hr], decide_eq_false (by rintro (⟨g, -⟩ | ⟨-, g⟩) <;> first | exact absurd g (by decide) | exact hr g)⟩)))
  · rw [if_neg h]
    exact .inl ⟨ne_decO h, rfl⟩
theorem rop_any (k : Int) (hk : k = 4 ∨ k = 5 ∨ k = 6 ∨ k = 7 ∨ k = 8) (rr nn : ByteArray) (dd : Int) (A : Option Addr) (c : Nat) (x y : Ex) (E : Ev) (day : Int) (w : World) (hin : Ex.In w (.mk k rr nn dd A c [x, y])) (hE : E.In w) (X Y : NR)
    (hX : X.1.size ≤ 1048576) (hY : Y.1.size ≤ 1048576)
    (hx : ∀ W, x.In W → E.In W → Calls Tryz.prog 75 #[x.val, .int .i64 day, E.val] W (StE X.1 X.2 W))
    (hy : ∀ W, y.In W → E.In W → Calls Tryz.prog 75 #[y.val, .int .i64 day, E.val] W (StE Y.1 Y.2 W)) :
    Calls Tryz.prog 75 #[Ex.val (.mk k rr nn dd A c [x, y]), .int .i64 day, E.val] w (StE (opR k X Y).1 (opR k X Y).2 w) := by
  obtain ⟨va, ea⟩ := X
  obtain ⟨vb, eb⟩ := Y
  have k1 : (k == 1) = false := by rw [beq_eq_false_iff_ne]; omega
  have k2 : (k == 2) = false := by rw [beq_eq_false_iff_ne]; omega
  have k3 : (k == 3) = false := by rw [beq_eq_false_iff_ne]; omega
  have k9 : (k == 9) = false := by rw [beq_eq_false_iff_ne]; omega
  unfold opR
  by_cases h1 : ea = 0
  · subst h1
    rw [if_neg (by simp)]
    by_cases h2 : eb = 0
    · subst h2
      rw [if_neg (by simp)]
      exact rval_ops k va vb _ _ _ rr nn dd A c x y E day w hin hE hx hy (opN_key k hk va vb hX hY)
    · rw [if_pos h2]
      exact rval_e2 k k1 k2 k3 k9 va vb eb rr nn dd A c x y E day w hin hE hx hy (ne_decO h2)
  · rw [if_pos h1]
    exact rval_e1 k k1 k2 k3 k9 va ea rr nn dd A c x y E day w hin hE hx (ne_decO h1)
theorem rcp_any (k : Int) (hk : k = 11 ∨ k = 12) (rr nn : ByteArray) (dd : Int) (A : Option Addr) (c : Nat) (x y : Ex) (E : Ev) (day : Int) (w : World) (hin : Ex.In w (.mk k rr nn dd A c [x, y])) (hE : E.In w) (X Y : NR)
    (hX : X.1.size ≤ 1048576) (hY : Y.1.size ≤ 1048576)
    (hx : ∀ W, x.In W → E.In W → Calls Tryz.prog 75 #[x.val, .int .i64 day, E.val] W (StE X.1 X.2 W))
    (hy : ∀ W, y.In W → E.In W → Calls Tryz.prog 75 #[y.val, .int .i64 day, E.val] W (StE Y.1 Y.2 W)) :
    Calls Tryz.prog 76 #[Ex.val (.mk k rr nn dd A c [x, y]), .int .i64 day, E.val] w (TrE (cpR k X Y).1 (cpR k X Y).2 w) := by
  obtain ⟨va, ea⟩ := X
  obtain ⟨vb, eb⟩ := Y
  have k13 : ¬ 13 ≤ k := by omega
  unfold cpR
  by_cases h1 : ea = 0
  · subst h1
    rw [if_neg (by simp)]
    by_cases h2 : eb = 0
    · subst h2
      rw [if_neg (by simp)]
      show Calls Tryz.prog _ _ w (TrE (cpT k va vb).1 (cpT k va vb).2 w)
      rw [cpT_snd]
      exact rhel_cmp k k13 va vb _ _ _ rr nn dd A c x y E day w hin hE hx hy (fun W => refrcompare_any va vb hX hY W) (cpT_key k hk va vb)
    · rw [if_pos h2]
      exact rhel_c2 k k13 va vb eb rr nn dd A c x y E day w hin hE hx hy (ne_decO h2)
  · rw [if_pos h1]
    exact rhel_c1 k k13 va ea rr nn dd A c x y E day w hin hE hx (ne_decO h1)
theorem reval_any (E : Ev) (day : Int) (hsf : ∀ f ∈ E.fs, f.2.2.size ≤ 1048576) (T : Ex) : ∀ (w : World), T.In w → E.In w → T.byt ≤ 3000 →
    (T.srt = 1 → Calls Tryz.prog 75 #[T.val, .int .i64 day, E.val] w (StE (T.ev E.fs day).1.1 (T.ev E.fs day).1.2 w)) ∧
    (T.srt = 2 → Calls Tryz.prog 76 #[T.val, .int .i64 day, E.val] w (TrE (T.ev E.fs day).2.1 (T.ev E.fs day).2.2 w)) := by
  induction T using Ex.ind with
  | h k rr nn dd A c s ih =>
  intro w hin hE hby
  have hb : ∀ t ∈ s, t.byt ≤ 3000 := fun t ht => Nat.le_trans (Ex.byt_sub (k := k) (r := rr) (n := nn) (d := dd) (A := A) (c := c) ht) hby
  have hz : ∀ t ∈ s, (t.ev E.fs day).1.1.size ≤ 1048576 := fun t ht => Ex.ev_size hsf day t (hb t ht)
  have hN : ∀ t ∈ s, t.srt = 1 → ∀ W, t.In W → E.In W → Calls Tryz.prog 75 #[t.val, .int .i64 day, E.val] W (StE (t.ev E.fs day).1.1 (t.ev E.fs day).1.2 W) := fun t ht h1 W h2 h3 => (ih t ht W h2 h3 (hb t ht)).1 h1
  have hT : ∀ t ∈ s, t.srt = 2 → ∀ W, t.In W → E.In W → Calls Tryz.prog 76 #[t.val, .int .i64 day, E.val] W (TrE (t.ev E.fs day).2.1 (t.ev E.fs day).2.2 W) := fun t ht h1 W h2 h3 => (ih t ht W h2 h3 (hb t ht)).2 h1
  clear ih hby hb
  constructor
  · intro hs
    rcases srt_num hs with ⟨h, rfl⟩ | ⟨h, x, y, rfl, s1, s2⟩ | ⟨rfl, x, y, z, rfl, s1, s2, s3⟩
    · rcases h with rfl | rfl | rfl
      · rw [ev_1]; exact rval_1 rr nn dd A c E day w hE
      · rw [ev_2]; exact rval_2 rr nn dd A c E day w hE
      · rw [ev_3]; exact rval_3 rr nn dd A c E day w hE
    · rw [ev_op _ _ _ _ _ _ _ (by omega) (by omega)]
      exact rop_any k h rr nn dd A c x y E day w hin hE _ _ (hz x (by simp)) (hz y (by simp)) (hN x (by simp) s1) (hN y (by simp) s2)
    · rw [ev_9]
      have hx := hT x (by simp) s1
      have hy := hN y (by simp) s2
      have hq := hN z (by simp) s3
      generalize (x.ev E.fs day).2 = p at *
      obtain ⟨ba, ea⟩ := p
      unfold whR
      by_cases h1 : ea = 0
      · subst h1
        rw [if_neg (by simp)]
        cases ba
        · rw [if_neg (by simp)]
          exact rval_9f _ _ rr nn dd A c x y z E day w hin hE hx hq
        · rw [if_pos rfl]
          exact rval_9t _ _ rr nn dd A c x y z E day w hin hE hx hy
      · rw [if_pos h1]
        exact rval_9e ba ea rr nn dd A c x y z E day w hin hE hx (ne_decO h1)
  · intro hs
    rcases srt_tru hs with ⟨h, x, y, rfl, s1, s2⟩ | ⟨h, x, y, rfl, s1, s2⟩ | ⟨rfl, x, rfl, s1⟩
    · rw [ev_cp _ _ _ _ _ _ _ (by omega) (by omega)]
      exact rcp_any k h rr nn dd A c x y E day w hin hE _ _ (hz x (by simp)) (hz y (by simp)) (hN x (by simp) s1) (hN y (by simp) s2)
    · rw [ev_an _ _ _ _ _ _ _ (by omega) (by omega)]
      have hx := hT x (by simp) s1
      have hy := hT y (by simp) s2
      generalize (x.ev E.fs day).2 = p at *
      generalize (y.ev E.fs day).2 = q at *
      obtain ⟨ba, ea⟩ := p
      obtain ⟨bb, eb⟩ := q
      unfold anR
      by_cases h1 : ea = 0
      · subst h1
        rw [if_neg (by simp)]
        rcases h with rfl | rfl <;> cases ba
        · exact rhel_13s rr nn dd A c x y E day w hin hE hx
        · exact rhel_13l _ _ rr nn dd A c x y E day w hin hE hx hy
        · exact rhel_14l _ _ rr nn dd A c x y E day w hin hE hx hy
        · exact rhel_14s rr nn dd A c x y E day w hin hE hx
      · rw [if_pos h1]
        exact rhel_ae k (by omega) ba ea rr nn dd A c x y E day w hin hE hx (ne_decO h1)
    · rw [ev_nt]
      have hx := hT x (by simp) s1
      generalize (x.ev E.fs day).2 = p at *
      obtain ⟨ba, ea⟩ := p
      unfold ntR
      by_cases h1 : ea = 0
      · subst h1
        rw [if_neg (by simp)]
        exact rhel_no ba rr nn dd A c x E day w hin hE hx
      · rw [if_pos h1]
        exact rhel_ne ba ea rr nn dd A c x E day w hin hE hx (ne_decO h1)
end Go.Proofs.YtceooffedkalnaaGreatDoor
/- Layer 8: an environment, a fixing, a choice among a law's arguments, opened. -/
namespace Go.Proofs.YtceooffedkalnaaGreatDoor
open Go Go.RowKit
section
variable {H : Type} {enc : TypeId × Value → H} {W : World}
set_option maxRecDepth 100000 in
theorem open_fx (fuel : Nat) (cs : List Value) (x : DataW H × List MemPlace) (hf : DataW.trod enc Tryz.prog W 0 (fun _ => true) true fuel 44 cs = some x) (hwt : ∀ n ∈ DataW.weights Tryz.prog 44 x.1, n ≤ reachBytes) : ∃ f : Fx, cs = fxC f ∧ f.1.size ≤ 140737488351232 ∧ f.2.2.size ≤ 140737488351232 ∧ -9223372036854775808 ≤ f.2.1 ∧ f.2.1 ≤ 9223372036854775807 := by
  obtain ⟨xs, n, hn, hx, hcl, hlen, hg⟩ := DataW.trod_struct Tryz.underlying44 hf
  have k1 : Tryz.prog.cellsOf 3 = 1 := by kernel_rfl
  have k3 : Tryz.prog.cellsOf 23 = 1 := by kernel_rfl
  have k4 : Tryz.prog.cellsOf 9 = 1 := by kernel_rfl
  have k5 : Tryz.prog.cellsOf 4 = 1 := by kernel_rfl
  have k6 : Tryz.prog.cellsOf 44 = 3 := by kernel_rfl
  rw [k6] at hcl
  obtain ⟨c0, c1, c2, rfl⟩ : ∃ c0 c1 c2, cs = [c0, c1, c2] := by
    match cs, hcl with
    | [c0, c1, c2], _ => exact ⟨c0, c1, c2, rfl⟩
  obtain ⟨y0, y1, y2, rfl⟩ : ∃ y0 y1 y2, xs = [y0, y1, y2] := by
    match xs, hlen with
    | [y0, y1, y2], _ => exact ⟨y0, y1, y2, rfl⟩
  have g0 : DataW.trod enc Tryz.prog W 0 (fun _ => true) true n 9 [c0] = some y0 := by simpa [k1, k3, k4, k5] using hg 0 _ rfl
  have g1 : DataW.trod enc Tryz.prog W 0 (fun _ => true) true n 3 [c1] = some y1 := by simpa [k1, k3, k4, k5] using hg 1 _ rfl
  have g2 : DataW.trod enc Tryz.prog W 0 (fun _ => true) true n 23 [c2] = some y2 := by simpa [k1, k3, k4, k5] using hg 2 _ rfl
  clear hg hf
  have hwe : ∀ (j : Nat) (t : TypeId) (d : DataW H), ([9, 3, 23] : List TypeId)[j]? = some t → ([y0.1, y1.1, y2.1] : List (DataW H))[j]? = some d → ∀ n ∈ d.weights Tryz.prog t, n ≤ reachBytes := by
    intro j t d ht hd n hn
    refine hwt n ?_
    rw [hx]
    show n ∈ DataW.weights Tryz.prog 44 (.agg [y0.1, y1.1, y2.1])
    rw [DataW.weights, Tryz.underlying44]
    exact DataW.weights_mem_each ht hd n hn
  clear hwt
  obtain ⟨s0, h0, x0, w0⟩ := DataW.trod_string Tryz.underlying9 g0
  obtain rfl : c0 = .string s0 := by simpa using h0
  have w0 : s0.size ≤ 140737488351232 := by
    have := hwe 0 _ _ rfl rfl s0.data.toList.length (by rw [x0]; exact w_strO s0)
    exact Nat.le_trans (Nat.le_of_eq (size_lenO s0)) (Nat.le_trans this (by decide))
  obtain ⟨s1, h1, -, w1⟩ := DataW.trod_int Tryz.underlying3 g1
  obtain rfl : c1 = .int .i64 s1 := by simpa using h1
  have b1 := bounds_i64 w1
  obtain ⟨s2, h2, x2, w2⟩ := DataW.trod_string Tryz.underlying23 g2
  obtain rfl : c2 = .string s2 := by simpa using h2
  have w2 : s2.size ≤ 140737488351232 := by
    have := hwe 2 _ _ rfl rfl s2.data.toList.length (by rw [x2]; exact w_strO s2)
    exact Nat.le_trans (Nat.le_of_eq (size_lenO s2)) (Nat.le_trans this (by decide))
  exact ⟨(s0, s1, s2), rfl, w0, w2, b1.1, b1.2⟩
set_option maxRecDepth 100000 in
theorem open_cx (fuel : Nat) (cs : List Value) (x : DataW H × List MemPlace) (hf : DataW.trod enc Tryz.prog W 0 (fun _ => true) true fuel 47 cs = some x) (hwt : ∀ n ∈ DataW.weights Tryz.prog 47 x.1, n ≤ reachBytes) : ∃ f : Cx, cs = cxC f ∧ f.1.size ≤ 140737488351232 ∧ f.2.1.size ≤ 140737488351232 := by
  obtain ⟨xs, n, hn, hx, hcl, hlen, hg⟩ := DataW.trod_struct Tryz.underlying47 hf
  have k1 : Tryz.prog.cellsOf 3 = 1 := by kernel_rfl
  have k3 : Tryz.prog.cellsOf 23 = 1 := by kernel_rfl
  have k4 : Tryz.prog.cellsOf 9 = 1 := by kernel_rfl
  have k5 : Tryz.prog.cellsOf 4 = 1 := by kernel_rfl
  have k6 : Tryz.prog.cellsOf 47 = 4 := by kernel_rfl
  rw [k6] at hcl
  obtain ⟨c0, c1, c2, c3, rfl⟩ : ∃ c0 c1 c2 c3, cs = [c0, c1, c2, c3] := by
    match cs, hcl with
    | [c0, c1, c2, c3], _ => exact ⟨c0, c1, c2, c3, rfl⟩
  obtain ⟨y0, y1, y2, y3, rfl⟩ : ∃ y0 y1 y2 y3, xs = [y0, y1, y2, y3] := by
    match xs, hlen with
    | [y0, y1, y2, y3], _ => exact ⟨y0, y1, y2, y3, rfl⟩
  have g0 : DataW.trod enc Tryz.prog W 0 (fun _ => true) true n 9 [c0] = some y0 := by simpa [k1, k3, k4, k5] using hg 0 _ rfl
  have g1 : DataW.trod enc Tryz.prog W 0 (fun _ => true) true n 9 [c1] = some y1 := by simpa [k1, k3, k4, k5] using hg 1 _ rfl
  have g2 : DataW.trod enc Tryz.prog W 0 (fun _ => true) true n 3 [c2] = some y2 := by simpa [k1, k3, k4, k5] using hg 2 _ rfl
  have g3 : DataW.trod enc Tryz.prog W 0 (fun _ => true) true n 4 [c3] = some y3 := by simpa [k1, k3, k4, k5] using hg 3 _ rfl
  clear hg hf
  have hwe : ∀ (j : Nat) (t : TypeId) (d : DataW H), ([9, 9, 3, 4] : List TypeId)[j]? = some t → ([y0.1, y1.1, y2.1, y3.1] : List (DataW H))[j]? = some d → ∀ n ∈ d.weights Tryz.prog t, n ≤ reachBytes := by
    intro j t d ht hd n hn
    refine hwt n ?_
    rw [hx]
    show n ∈ DataW.weights Tryz.prog 47 (.agg [y0.1, y1.1, y2.1, y3.1])
    rw [DataW.weights, Tryz.underlying47]
    exact DataW.weights_mem_each ht hd n hn
  clear hwt
  obtain ⟨s0, h0, x0, w0⟩ := DataW.trod_string Tryz.underlying9 g0
  obtain rfl : c0 = .string s0 := by simpa using h0
  have w0 : s0.size ≤ 140737488351232 := by
    have := hwe 0 _ _ rfl rfl s0.data.toList.length (by rw [x0]; exact w_strO s0)
    exact Nat.le_trans (Nat.le_of_eq (size_lenO s0)) (Nat.le_trans this (by decide))
  obtain ⟨s1, h1, x1, w1⟩ := DataW.trod_string Tryz.underlying9 g1
  obtain rfl : c1 = .string s1 := by simpa using h1
  have w1 : s1.size ≤ 140737488351232 := by
    have := hwe 1 _ _ rfl rfl s1.data.toList.length (by rw [x1]; exact w_strO s1)
    exact Nat.le_trans (Nat.le_of_eq (size_lenO s1)) (Nat.le_trans this (by decide))
  obtain ⟨s2, h2, -, w2⟩ := DataW.trod_int Tryz.underlying3 g2
  obtain rfl : c2 = .int .i64 s2 := by simpa using h2
  have b2 := bounds_i64 w2
  obtain ⟨s3, h3, -⟩ := DataW.trod_bool Tryz.underlying4 g3
  obtain rfl : c3 = .bool s3 := by simpa using h3
  exact ⟨(s0, s1, s2, s3), rfl, w0, w1⟩
set_option maxRecDepth 100000 in
theorem open_rows {α : Type} [Inhabited α] {encA : α → List Value} {k : Nat} (hk : ∀ x, (encA x).length = k) (h0 : 0 < k) {S e : TypeId} (hS : Tryz.prog.underlying S = some (.slice e)) (hc : Tryz.prog.cellsOf e = k) (hby : 1 ≤ Tryz.prog.bytesOf e) (ok : α → Prop)
    (hel : ∀ fuel cs (x : DataW H × List MemPlace), DataW.trod enc Tryz.prog W 0 (fun _ => true) true fuel e cs = some x → (∀ n ∈ DataW.weights Tryz.prog e x.1, n ≤ reachBytes) → ∃ f : α, cs = encA f ∧ ok f)
    (fuel : Nat) (c : Value) (x : DataW H × List MemPlace) (hf : DataW.trod enc Tryz.prog W 0 (fun _ => true) true fuel S [c] = some x) (hwt : ∀ n ∈ DataW.weights Tryz.prog S x.1, n ≤ reachBytes) :
    ∃ A l cap, c = .slice A l.length cap ∧ RowsR W A k encA l ∧ l.length ≤ cap ∧ cap ≤ 140737488351232 ∧ (A = none → cap = 0) ∧ ∀ f ∈ l, ok f := by
  rcases DataW.trod_slice hS hf with ⟨h4, -⟩ | ⟨a, len, cap, elems, rest, n2, hn2, h4, x4, -, hlc, -, hel2, hget, hsp, -⟩
  · obtain rfl : c = .slice none 0 0 := by simpa using h4
    exact ⟨none, [], 0, rfl, RowsR.nil, Nat.le_refl _, Nat.zero_le _, fun _ => rfl, by simp⟩
  · obtain rfl : c = .slice (some a) len cap := by simpa using h4
    rw [hc] at hget
    rw [x4, DataW.weights, hS] at hwt
    have hcm : cap ≤ 140737488351232 := by
      have h1 := hwt _ (List.mem_cons_self ..)
      rw [List.length_map, List.length_map, hel2, (hsp rfl).1] at h1
      have h2 : reachBytes = 140737488351232 := rfl
      have h3 : (len + (cap - len)) * 1 ≤ (len + (cap - len)) * Tryz.prog.bytesOf e := Nat.mul_le_mul_left _ hby
      omega
    have hE : ∀ i, i < len → ∃ T : α, (∃ cs, W.cells? 0 (a.add (i * k)) k = some cs ∧ cs = encA T) ∧ ok T := by
      intro i hi
      have := hget i hi
      rw [List.getElem?_eq_getElem (by omega)] at this
      obtain ⟨cs', q1, q2⟩ := Option.bind_eq_some_iff.1 this
      obtain ⟨T, e, hT⟩ := hel n2 cs' _ q2 (fun n hn => hwt n (by
        refine List.mem_cons_of_mem _ (List.mem_append_left _ (weightsAll_mem hn _ ?_))
        exact List.mem_map_of_mem (List.getElem_mem _)))
      exact ⟨T, ⟨cs', q1, e⟩, hT⟩
    obtain ⟨F, hF⟩ := Deep.choose_lt hE
    have hl : ((List.range len).map F).length = len := by simp
    refine ⟨some a, (List.range len).map F, cap, by rw [hl], fun j hj => ?_, by rw [hl]; exact hlc, hcm, fun h => (by cases h), fun f hf => ?_⟩
    · rw [hl] at hj
      have hj' : ((List.range len).map F)[j]'(by rw [hl]; exact hj) = F j := by simp
      rw [hj']
      obtain ⟨⟨cs', q1, rfl⟩, -⟩ := hF j hj
      have hcc : ∀ i v, (encA (F j))[i]? = some v → W.cell? ((a.add (j * k)).add i) = some v := fun i v hv => by
        obtain ⟨-, hl2, hc2⟩ := World.cells?_some q1
        have hi : i < k := by
          rw [← hl2]
          exact (List.getElem?_eq_some_iff.1 hv).1
        rw [hc2 i hi]; exact hv
      have hsp : a.spot = none := by
        obtain ⟨⟨cs0, z1, rfl⟩, -⟩ := hF 0 (by omega)
        obtain ⟨-, -, z2⟩ := World.cells?_some z1
        have z3 := z2 0 h0
        rw [Nat.zero_mul] at z3
        have z4 : ∃ v, (encA (F 0))[0]? = some v := ⟨_, List.getElem?_eq_getElem (by rw [hk]; exact h0)⟩
        obtain ⟨v, z4⟩ := z4
        rw [z4] at z3
        exact (spot_none z3).1
      obtain ⟨b, o, p⟩ := a
      simp only at hsp
      subst hsp
      have hb : b < W.heap.size := by
        obtain ⟨v, z4⟩ : ∃ v, (encA (F j))[0]? = some v := ⟨_, List.getElem?_eq_getElem (by rw [hk]; exact h0)⟩
        have := (spot_none (hcc 0 v z4)).2
        rw [add_off, add_off] at this
        exact this
      refine ⟨b, o, rfl, hb, fun i v hv => ?_⟩
      have := hcc i v hv
      rw [add_off, add_off] at this
      rw [← this, Nat.add_assoc]
    · rw [List.mem_map] at hf
      obtain ⟨i, hi, rfl⟩ := hf
      exact (hF i (List.mem_range.1 hi)).2
set_option maxRecDepth 100000 in
theorem open_env (fuel : Nat) (cs : List Value) (x : DataW H × List MemPlace) (hf : DataW.trod enc Tryz.prog W 0 (fun _ => true) true fuel 38 cs = some x) (hwt : ∀ n ∈ DataW.weights Tryz.prog 38 x.1, n ≤ reachBytes) :
    ∃ E : Ev, cs = [.slice E.fA E.fs.length E.fc, .slice E.cA E.cs.length E.cc] ∧ E.In W ∧ CapR E.fA E.fs.length E.fc ∧ CapR E.cA E.cs.length E.cc := by
  obtain ⟨xs, n, hn, hx, hcl, hlen, hg⟩ := DataW.trod_struct Tryz.underlying38 hf
  have k1 : Tryz.prog.cellsOf 35 = 1 := by kernel_rfl
  have k2 : Tryz.prog.cellsOf 36 = 1 := by kernel_rfl
  have k6 : Tryz.prog.cellsOf 38 = 2 := by kernel_rfl
  rw [k6] at hcl
  obtain ⟨c0, c1, rfl⟩ : ∃ c0 c1, cs = [c0, c1] := by
    match cs, hcl with
    | [c0, c1], _ => exact ⟨c0, c1, rfl⟩
  obtain ⟨y0, y1, rfl⟩ : ∃ y0 y1, xs = [y0, y1] := by
    match xs, hlen with
    | [y0, y1], _ => exact ⟨y0, y1, rfl⟩
  have g0 : DataW.trod enc Tryz.prog W 0 (fun _ => true) true n 35 [c0] = some y0 := by simpa [k1, k2] using hg 0 _ rfl
  have g1 : DataW.trod enc Tryz.prog W 0 (fun _ => true) true n 36 [c1] = some y1 := by simpa [k1, k2] using hg 1 _ rfl
  have hwe : ∀ (j : Nat) (t : TypeId) (d : DataW H), ([35, 36] : List TypeId)[j]? = some t → ([y0.1, y1.1] : List (DataW H))[j]? = some d → ∀ n ∈ d.weights Tryz.prog t, n ≤ reachBytes := by
    intro j t d ht hd n hn
    refine hwt n ?_
    rw [hx]
    show n ∈ DataW.weights Tryz.prog 38 (.agg [y0.1, y1.1])
    rw [DataW.weights, Tryz.underlying38]
    exact DataW.weights_mem_each ht hd n hn
  haveI : Inhabited Fx := ⟨(⟨#[]⟩, 0, ⟨#[]⟩)⟩
  haveI : Inhabited Cx := ⟨(⟨#[]⟩, ⟨#[]⟩, 0, false)⟩
  obtain ⟨A, l, cap, rfl, r1, r2, r3, r4, r5⟩ := open_rows fxC_len (by decide) Tryz.underlying35 (by kernel_rfl) (by decide +kernel) _ (fun fu cs x h hw => open_fx fu cs x h hw) n c0 y0 g0 (hwe 0 _ _ rfl rfl)
  obtain ⟨A2, l2, cap2, rfl, q1, q2, q3, q4, q5⟩ := open_rows cxC_len (by decide) Tryz.underlying36 (by kernel_rfl) (by decide +kernel) _ (fun fu cs x h hw => open_cx fu cs x h hw) n c1 y1 g1 (hwe 1 _ _ rfl rfl)
  exact ⟨⟨A, l, cap, A2, l2, cap2⟩, rfl, ⟨r1, q1, Nat.le_trans r2 r3, Nat.le_trans q2 q3, fun f hf => ⟨(r5 f hf).1, (r5 f hf).2.1⟩, fun c hc => q5 c hc⟩, ⟨r2, by unfold maxLen; show cap ≤ _; omega, r4⟩, ⟨q2, by unfold maxLen; show cap2 ≤ _; omega, q4⟩⟩
end
end Go.Proofs.YtceooffedkalnaaGreatDoor
/- Layer 8: the arguments of the laws, opened; the variables that the rows lay. -/
namespace Go.Proofs.YtceooffedkalnaaGreatDoor
open Go Go.ChangeShapes Go.WideShapes Go.ChangeAt Go.RowKit
theorem hwt_of {H : Type} {P : Program} {ts : List TypeId} {ds : List (DataW H)} (hsz : (DataW.weightsEach P ts ds).all (· ≤ reachBytes) = true) {j : Nat} {t : TypeId} {d : DataW H} (hj : ts[j]? = some t) (hd : ds[j]? = some d) : ∀ n ∈ DataW.weights P t d, n ≤ reachBytes := fun n hn =>
  of_decide_eq_true (List.all_eq_true.1 hsz _ (DataW.weights_mem_each hj hd n hn))
section
variable {H : Type} {enc : TypeId × Value → H} {W : World} {v : Value} {d : DataW H} {p : List MemPlace} {r : Reach} {b0 : Nat} {ts : List TypeId} {ds : List (DataW H)} (hsz : (DataW.weightsEach Tryz.prog ts ds).all (· ≤ reachBytes) = true) {j : Nat} (hd : ds[j]? = some d)
include hsz hd
set_option maxRecDepth 100000 in
theorem open_expr (hv : Value.okWide Tryz.prog W r b0 26 v) (h : DataW.Trod enc Tryz.prog W 0 (fun _ => true) true 26 v d p) (hj : ts[j]? = some 26) : ∃ T : Ex, v = T.val ∧ T.In W := by
  obtain ⟨cs, rfl, -⟩ := okWide_struct Tryz.underlying26 hv
  obtain ⟨fuel, hf⟩ := h
  obtain ⟨T, e, hT⟩ := open_exF fuel _ _ hf (hwt_of hsz hj hd)
  refine ⟨T, ?_, hT⟩
  have e : cs.toList = T.cel := e
  rw [show cs = T.cel.toArray by rw [← e]]
  rfl
set_option maxRecDepth 100000 in
theorem open_envA (hv : Value.okWide Tryz.prog W r b0 38 v) (h : DataW.Trod enc Tryz.prog W 0 (fun _ => true) true 38 v d p) (hj : ts[j]? = some 38) : ∃ E : Ev, v = E.val ∧ E.In W ∧ CapR E.fA E.fs.length E.fc ∧ CapR E.cA E.cs.length E.cc := by
  obtain ⟨cs, rfl, -⟩ := okWide_struct Tryz.underlying38 hv
  obtain ⟨fuel, hf⟩ := h
  obtain ⟨E, e, hE⟩ := open_env fuel _ _ hf (hwt_of hsz hj hd)
  refine ⟨E, ?_, hE⟩
  have e : cs.toList = [.slice E.fA E.fs.length E.fc, .slice E.cA E.cs.length E.cc] := e
  rw [show cs = [.slice E.fA E.fs.length E.fc, .slice E.cA E.cs.length E.cc].toArray by rw [← e]]
end
theorem obvar_Values {W : World} (h : laidMetH Tryz.prog Rows.observableValuesRow.laid W) (hs : W.ShapedOpen Tryz.prog) : VarR W := by -- 5
  rw [MakeChecks.laidMetH_plain _ _ _ (by kernel_rfl)] at h
  have h1 : laidMet Tryz.prog _ W := h.tail
  have t1 : Lib.TabIs Tryz.prog W "math/bits.deBruijn64tab" .u8 db64 := Lib.tabIs_of_head gDb64 (t := 249) (by kernel_rfl) Tryz.underlying249 Tryz.underlying5 (by kernel_rfl) (by kernel_rfl) h1
  have c1 := t1.cell gDb64 0 (by decide)
  have h2 := h1.tail
  have t2 : Lib.TabIs Tryz.prog W "internal/strconv.uint64pow10" .u64 Lib.pow10Tab := Lib.tabIs_of_head gTab (t := 244) (by kernel_rfl) Tryz.underlying244 Tryz.underlying212 (by kernel_rfl) (by kernel_rfl) h2
  exact varr_of ⟨by have := lt_of_cell c1; omega, t2⟩ hs
end Go.Proofs.YtceooffedkalnaaGreatDoor

/- Joined: OeL6c, OeL7, OeL4. -/
import Derived.Test.YtnomccgdajcfiaaGreatDoorPk30
import Derived.Test.YtnomccgdajcfiaaGreatDoorPk23
import Derived.Test.YtnomccgdajcfiaaGreatDoorPk28
import Derived.Deep.RegionHeld3
/- The law ObservableLogic: the way to the end. -/
namespace Go.Proofs.YtnomccgdajcfiaaGreatDoor
open Go Go.RowKit Go.BigFrame
set_option maxRecDepth 100000 in
set_option maxHeartbeats 25600000 in
theorem logic_val (P R X Y : Ex) (E : Ev) (day : Int) (sP dP sR dR sX dX sY dY : Int) (a b : Bool) (e f : Int) (c1 c2 c3 : Bool) (g1 g2 g3 : Int) (r : ByteArray) (j : Int) (rX rY : ByteArray) (jX jY : Int) (w : World) (iP : P.In w) (iR : R.In w) (iX : X.In w) (iY : Y.In w)
    (hal : ∀ W, Below w.heap.size w W → Calls Tryz.prog 23 #[] W (BoolRO true W))
    (hgP : ∀ W, Below w.heap.size w W → Calls Tryz.prog 34 #[.agg #[.int .u8 P.k, .string P.r, .string P.n, .int .i64 P.d, .slice P.A P.sub.length P.c]] W (BoolRO false W))
    (hsP : ∀ W, Below w.heap.size w W → Calls Tryz.prog 37 #[.agg #[.int .u8 P.k, .string P.r, .string P.n, .int .i64 P.d, .slice P.A P.sub.length P.c]] W (IntRO sP W))
    (hdP : ∀ W, Below w.heap.size w W → Calls Tryz.prog 38 #[.agg #[.int .u8 P.k, .string P.r, .string P.n, .int .i64 P.d, .slice P.A P.sub.length P.c]] W (IntRO dP W))
    (hgR : ∀ W, Below w.heap.size w W → Calls Tryz.prog 34 #[.agg #[.int .u8 R.k, .string R.r, .string R.n, .int .i64 R.d, .slice R.A R.sub.length R.c]] W (BoolRO false W))
    (hsR : ∀ W, Below w.heap.size w W → Calls Tryz.prog 37 #[.agg #[.int .u8 R.k, .string R.r, .string R.n, .int .i64 R.d, .slice R.A R.sub.length R.c]] W (IntRO sR W))
    (hdR : ∀ W, Below w.heap.size w W → Calls Tryz.prog 38 #[.agg #[.int .u8 R.k, .string R.r, .string R.n, .int .i64 R.d, .slice R.A R.sub.length R.c]] W (IntRO dR W))
    (hgX : ∀ W, Below w.heap.size w W → Calls Tryz.prog 34 #[.agg #[.int .u8 X.k, .string X.r, .string X.n, .int .i64 X.d, .slice X.A X.sub.length X.c]] W (BoolRO false W))
    (hsX : ∀ W, Below w.heap.size w W → Calls Tryz.prog 37 #[.agg #[.int .u8 X.k, .string X.r, .string X.n, .int .i64 X.d, .slice X.A X.sub.length X.c]] W (IntRO sX W))
    (hdX : ∀ W, Below w.heap.size w W → Calls Tryz.prog 38 #[.agg #[.int .u8 X.k, .string X.r, .string X.n, .int .i64 X.d, .slice X.A X.sub.length X.c]] W (IntRO dX W))
    (hgY : ∀ W, Below w.heap.size w W → Calls Tryz.prog 34 #[.agg #[.int .u8 Y.k, .string Y.r, .string Y.n, .int .i64 Y.d, .slice Y.A Y.sub.length Y.c]] W (BoolRO false W))
    (hsY : ∀ W, Below w.heap.size w W → Calls Tryz.prog 37 #[.agg #[.int .u8 Y.k, .string Y.r, .string Y.n, .int .i64 Y.d, .slice Y.A Y.sub.length Y.c]] W (IntRO sY W))
    (hdY : ∀ W, Below w.heap.size w W → Calls Tryz.prog 38 #[.agg #[.int .u8 Y.k, .string Y.r, .string Y.n, .int .i64 Y.d, .slice Y.A Y.sub.length Y.c]] W (IntRO dY W))
    (hgv : ∀ W, Below w.heap.size w W → Calls Tryz.prog 24 #[.agg #[.slice E.fA E.fs.length E.fc, .slice E.cA E.cs.length E.cc]] W (BoolRO false W))
    (htP : ∀ W, Below w.heap.size w W → Calls Tryz.prog 15 #[.agg #[.int .u8 P.k, .string P.r, .string P.n, .int .i64 P.d, .slice P.A P.sub.length P.c]] W (BoolRO true W))
    (htR : ∀ W, Below w.heap.size w W → Calls Tryz.prog 15 #[.agg #[.int .u8 R.k, .string R.r, .string R.n, .int .i64 R.d, .slice R.A R.sub.length R.c]] W (BoolRO true W))
    (hnX : ∀ W, Below w.heap.size w W → Calls Tryz.prog 14 #[.agg #[.int .u8 X.k, .string X.r, .string X.n, .int .i64 X.d, .slice X.A X.sub.length X.c]] W (BoolRO true W))
    (hnY : ∀ W, Below w.heap.size w W → Calls Tryz.prog 14 #[.agg #[.int .u8 Y.k, .string Y.r, .string Y.n, .int .i64 Y.d, .slice Y.A Y.sub.length Y.c]] W (BoolRO true W))
    (hhP : ∀ W, Below w.heap.size w W → Calls Tryz.prog 18 #[.agg #[.int .u8 P.k, .string P.r, .string P.n, .int .i64 P.d, .slice P.A P.sub.length P.c], .int .i64 day, .agg #[.slice E.fA E.fs.length E.fc, .slice E.cA E.cs.length E.cc]] W (TrE a e W))
    (hhR : ∀ W, Below w.heap.size w W → Calls Tryz.prog 18 #[.agg #[.int .u8 R.k, .string R.r, .string R.n, .int .i64 R.d, .slice R.A R.sub.length R.c], .int .i64 day, .agg #[.slice E.fA E.fs.length E.fc, .slice E.cA E.cs.length E.cc]] W (TrE b f W))
    (hp : ∀ W, Below w.heap.size w W → ∀ k : Int, 13 ≤ k → k ≤ 14 → Calls Tryz.prog 12 #[.int .u8 k, .agg #[.int .u8 P.k, .string P.r, .string P.n, .int .i64 P.d, .slice P.A P.sub.length P.c], .agg #[.int .u8 R.k, .string R.r, .string R.n, .int .i64 R.d, .slice R.A R.sub.length R.c]] W (PairR k P R W))
    (hand : ∀ W, Below w.heap.size w W → ∀ bb, (pairT 13 bb P R).In W → Calls Tryz.prog 18 #[(pairT 13 bb P R).val, .int .i64 day, .agg #[.slice E.fA E.fs.length E.fc, .slice E.cA E.cs.length E.cc]] W (TrE c1 g1 W))
    (hor : ∀ W, Below w.heap.size w W → ∀ bb, (pairT 14 bb P R).In W → Calls Tryz.prog 18 #[(pairT 14 bb P R).val, .int .i64 day, .agg #[.slice E.fA E.fs.length E.fc, .slice E.cA E.cs.length E.cc]] W (TrE c2 g2 W))
    (hnot : ∀ W, Below w.heap.size w W → ∀ bb, (Ex.mk 15 ⟨#[]⟩ ⟨#[]⟩ 0 (some ⟨bb, 0, none⟩) 1 [P]).In W → Calls Tryz.prog 18 #[.agg #[.int .u8 15, .string ⟨#[]⟩, .string ⟨#[]⟩, .int .i64 0, .slice (some ⟨bb, 0, none⟩) 1 1], .int .i64 day, .agg #[.slice E.fA E.fs.length E.fc, .slice E.cA E.cs.length E.cc]] W (TrE c3 g3 W))
    (hwhen : ∀ W, Below w.heap.size w W → ∀ bb, (Ex.mk 9 ⟨#[]⟩ ⟨#[]⟩ 0 (some ⟨bb, 0, none⟩) 3 [P, X, Y]).In W → Calls Tryz.prog 17 #[.agg #[.int .u8 9, .string ⟨#[]⟩, .string ⟨#[]⟩, .int .i64 0, .slice (some ⟨bb, 0, none⟩) 3 3], .int .i64 day, .agg #[.slice E.fA E.fs.length E.fc, .slice E.cA E.cs.length E.cc]] W (StE r j W))
    (hvX : ∀ W, Below w.heap.size w W → Calls Tryz.prog 17 #[.agg #[.int .u8 X.k, .string X.r, .string X.n, .int .i64 X.d, .slice X.A X.sub.length X.c], .int .i64 day, .agg #[.slice E.fA E.fs.length E.fc, .slice E.cA E.cs.length E.cc]] W (StE rX jX W))
    (hvY : ∀ W, Below w.heap.size w W → Calls Tryz.prog 17 #[.agg #[.int .u8 Y.k, .string Y.r, .string Y.n, .int .i64 Y.d, .slice Y.A Y.sub.length Y.c], .int .i64 day, .agg #[.slice E.fA E.fs.length E.fc, .slice E.cA E.cs.length E.cc]] W (StE rY jY W))
    (cP : ¬ 100 < sP) (eP : ¬ 59 < dP) (cR : ¬ 100 < sR) (eR : ¬ 59 < dR) (cX : ¬ 100 < sX) (eX : ¬ 59 < dX) (cY : ¬ 100 < sY) (eY : ¬ 59 < dY)
    (key : ((e != 0) = true ∧ c1 = false ∧ g1 = e ∧ c2 = false ∧ g2 = e ∧ c3 = false ∧ g3 = e ∧ r = ⟨#[]⟩ ∧ j = e) ∨ (e = 0 ∧ a = true ∧ g1 = f ∧ c2 = true ∧ g2 = 0 ∧ c3 = false ∧ g3 = 0 ∧ r = rX ∧ j = jX ∧ f = 0 ∧ c1 = true ∧ b = true) ∨ (e = 0 ∧ a = true ∧ g1 = f ∧ c2 = true ∧ g2 = 0 ∧ c3 = false ∧ g3 = 0 ∧ r = rX ∧ j = jX ∧ f = 0 ∧ c1 = false ∧ b = false) ∨ (e = 0 ∧ a = true ∧ g1 = f ∧ c2 = true ∧ g2 = 0 ∧ c3 = false ∧ g3 = 0 ∧ r = rX ∧ j = jX ∧ (f != 0) = true ∧ c1 = false ∧ b = false) ∨ (e = 0 ∧ a = false ∧ g2 = f ∧ c1 = false ∧ g1 = 0 ∧ c3 = true ∧ g3 = 0 ∧ r = rY ∧ j = jY ∧ f = 0 ∧ c2 = true ∧ b = true) ∨ (e = 0 ∧ a = false ∧ g2 = f ∧ c1 = false ∧ g1 = 0 ∧ c3 = true ∧ g3 = 0 ∧ r = rY ∧ j = jY ∧ f = 0 ∧ c2 = false ∧ b = false) ∨ (e = 0 ∧ a = false ∧ g2 = f ∧ c1 = false ∧ g1 = 0 ∧ c3 = true ∧ g3 = 0 ∧ r = rY ∧ j = jY ∧ (f != 0) = true ∧ c2 = false ∧ b = false)) :
    Calls Tryz.prog 7 #[.agg #[.int .u8 P.k, .string P.r, .string P.n, .int .i64 P.d, .slice P.A P.sub.length P.c], .agg #[.int .u8 R.k, .string R.r, .string R.n, .int .i64 R.d, .slice R.A R.sub.length R.c], .agg #[.int .u8 X.k, .string X.r, .string X.n, .int .i64 X.d, .slice X.A X.sub.length X.c], .agg #[.int .u8 Y.k, .string Y.r, .string Y.n, .int .i64 Y.d, .slice Y.A Y.sub.length Y.c], .int .i64 day, .agg #[.slice E.fA E.fs.length E.fc, .slice E.cA E.cs.length E.cc]] w (BoolRO true w) := by
  obtain ⟨w1, hw1, hB, hS⟩ := lo_begin w P R X Y E
  have HB := Lib.hid hB
  have HG := Lib.hid (fun W (hW : Below w1.heap.size w1 W) => hS.below hW)
  have Hal := Lib.hid (fun W (hW : Below w1.heap.size w1 W) => hal W (btO hB hW))
  have HgP := Lib.hid (fun W (hW : Below w1.heap.size w1 W) => hgP W (btO hB hW))
  have HsP := Lib.hid (fun W (hW : Below w1.heap.size w1 W) => hsP W (btO hB hW))
  have HdP := Lib.hid (fun W (hW : Below w1.heap.size w1 W) => hdP W (btO hB hW))
  have HgR := Lib.hid (fun W (hW : Below w1.heap.size w1 W) => hgR W (btO hB hW))
  have HsR := Lib.hid (fun W (hW : Below w1.heap.size w1 W) => hsR W (btO hB hW))
  have HdR := Lib.hid (fun W (hW : Below w1.heap.size w1 W) => hdR W (btO hB hW))
  have HgX := Lib.hid (fun W (hW : Below w1.heap.size w1 W) => hgX W (btO hB hW))
  have HsX := Lib.hid (fun W (hW : Below w1.heap.size w1 W) => hsX W (btO hB hW))
  have HdX := Lib.hid (fun W (hW : Below w1.heap.size w1 W) => hdX W (btO hB hW))
  have HgY := Lib.hid (fun W (hW : Below w1.heap.size w1 W) => hgY W (btO hB hW))
  have HsY := Lib.hid (fun W (hW : Below w1.heap.size w1 W) => hsY W (btO hB hW))
  have HdY := Lib.hid (fun W (hW : Below w1.heap.size w1 W) => hdY W (btO hB hW))
  have Hgv := Lib.hid (fun W (hW : Below w1.heap.size w1 W) => hgv W (btO hB hW))
  have HtP := Lib.hid (fun W (hW : Below w1.heap.size w1 W) => htP W (btO hB hW))
  have HtR := Lib.hid (fun W (hW : Below w1.heap.size w1 W) => htR W (btO hB hW))
  have HnX := Lib.hid (fun W (hW : Below w1.heap.size w1 W) => hnX W (btO hB hW))
  have HnY := Lib.hid (fun W (hW : Below w1.heap.size w1 W) => hnY W (btO hB hW))
  have HhP := Lib.hid (fun W (hW : Below w1.heap.size w1 W) => hhP W (btO hB hW))
  have HhR := Lib.hid (fun W (hW : Below w1.heap.size w1 W) => hhR W (btO hB hW))
  have Hp := Lib.hid (fun W (hW : Below w1.heap.size w1 W) => hp W (btO hB hW))
  have Hand := Lib.hid (fun W (hW : Below w1.heap.size w1 W) => hand W (btO hB hW))
  have Hor := Lib.hid (fun W (hW : Below w1.heap.size w1 W) => hor W (btO hB hW))
  have Hnot := Lib.hid (fun W (hW : Below w1.heap.size w1 W) => hnot W (btO hB hW))
  have Hwhen := Lib.hid (fun W (hW : Below w1.heap.size w1 W) => hwhen W (btO hB hW))
  have HvX := Lib.hid (fun W (hW : Below w1.heap.size w1 W) => hvX W (btO hB hW))
  have HvY := Lib.hid (fun W (hW : Below w1.heap.size w1 W) => hvY W (btO hB hW))
  have HW1 := Lib.hid (Below.refl w1.heap.size w1)
  have HIP := Lib.hid (fun W (hW : Below w1.heap.size w1 W) => iP.below (btO hB hW))
  have HIR := Lib.hid (fun W (hW : Below w1.heap.size w1 W) => iR.below (btO hB hW))
  have HIX := Lib.hid (fun W (hW : Below w1.heap.size w1 W) => iX.below (btO hB hW))
  have HIY := Lib.hid (fun W (hW : Below w1.heap.size w1 W) => iY.below (btO hB hW))
  have Key := Lib.hid key
  clear hB hS iP iR iX iY key hal hgP hsP hdP hgR hsR hdR hgX hsX hdX hgY hsY hdY hgv htP htR hnX hnY hhP hhR hp hand hor hnot hwhen hvX hvY
  obtain ⟨a0, a1, a2, a3, a4, b0, b1, b2, b3, b4, x0, x1, x2, x3, x4, y0, y1, y2, y3, y4, v0, v1⟩ := HG.out _ HW1.out
  go_enter Tryz.func7, Tryz.ntmps7
  go_wp2_with (first | (go_at_call 23; have _t := HW1; ((with_reducible refine (Hal.out _ HW1.out).mono ?_); rintro u w2 ⟨rfl, hb⟩; clear a0 a1 a2 a3 a4 b0 b1 b2 b3 b4 x0 x1 x2 x3 x4 y0 y1 y2 y3 y4 v0 v1; have HW2 := Lib.hid (btO HW1.out hb); obtain ⟨a0, a1, a2, a3, a4, b0, b1, b2, b3, b4, x0, x1, x2, x3, x4, y0, y1, y2, y3, y4, v0, v1⟩ := HG.out _ HW2.out; clear hb)))
  have HR := Lib.hid (heap_alloc_new w2 (.cells #[.int .u8 P.k, .string P.r, .string P.n, .int .i64 P.d, .slice P.A P.sub.length P.c, .int .u8 R.k, .string R.r, .string R.n, .int .i64 R.d, .slice R.A R.sub.length R.c, .int .u8 X.k, .string X.r, .string X.n, .int .i64 X.d, .slice X.A X.sub.length X.c, .int .u8 Y.k, .string Y.r, .string Y.n, .int .i64 Y.d, .slice Y.A Y.sub.length Y.c] 26))
  have HW3 := Lib.hid (btO HW2.out (belo3 w2 P R X Y))
  clear a0 a1 a2 a3 a4 b0 b1 b2 b3 b4 x0 x1 x2 x3 x4 y0 y1 y2 y3 y4 v0 v1 hw1
  generalize w2.alloc (.cells #[.int .u8 P.k, .string P.r, .string P.n, .int .i64 P.d, .slice P.A P.sub.length P.c, .int .u8 R.k, .string R.r, .string R.n, .int .i64 R.d, .slice R.A R.sub.length R.c, .int .u8 X.k, .string X.r, .string X.n, .int .i64 X.d, .slice X.A X.sub.length X.c, .int .u8 Y.k, .string Y.r, .string Y.n, .int .i64 Y.d, .slice Y.A Y.sub.length Y.c] 26) = w3 at *
  go_loopw [38] (fun i wr => ∃ (k : Nat), k ≤ 4 ∧ i = .int .i64 k ∧ Hid (Below w3.heap.size w3 wr)) (fun i _ => 4 - (intOf i).toNat)
  case atStart => exact ⟨0, by omega, rfl, Below.refl _ _⟩
  case round =>
    obtain ⟨k, hk, rfl, HW⟩ := hrel
    have hk : k = 0 ∨ k = 1 ∨ k = 2 ∨ k = 3 ∨ k = 4 := by omega
    rcases hk with rfl | rfl | rfl | rfl | rfl
    · skip
      have t0 := cellO HW.out (row_cell (j := 0) HR.out rfl)
      have t1 := cellO HW.out (row_cell (j := 1) HR.out rfl)
      have t2 := cellO HW.out (row_cell (j := 2) HR.out rfl)
      have t3 := cellO HW.out (row_cell (j := 3) HR.out rfl)
      have t4 := cellO HW.out (row_cell (j := 4) HR.out rfl)
      have HX := Lib.hid (btO HW3.out HW.out)
      have HV0 : Hid (Ex.Box (wr.alloc (.cells #[.int .u8 P.k, .string P.r, .string P.n, .int .i64 P.d, .slice P.A P.sub.length P.c] 26)) wr.heap.size P) := Ex.Box.new wr P 26
      have HX0 := Lib.hid (btO HX.out (belO wr (.cells #[.int .u8 P.k, .string P.r, .string P.n, .int .i64 P.d, .slice P.A P.sub.length P.c] 26)))
      have HY0 := Lib.hid (btO HW.out (belO wr (.cells #[.int .u8 P.k, .string P.r, .string P.n, .int .i64 P.d, .slice P.A P.sub.length P.c] 26)))
      go_wp2_with (first
        | (go_at_call 38; have _t := HX2; ((with_reducible refine (HdP.out _ HX2.out).mono ?_); rintro u w13 ⟨rfl, hb⟩; have HX3 := Lib.hid (btO HX2.out hb); have HY3 := Lib.hid (btO HY2.out hb); have HV3 := Lib.hid (HV2.out.below hb); have z30 := HV3.out.c0; have z31 := HV3.out.c1; have z32 := HV3.out.c2; have z33 := HV3.out.c3; have z34 := HV3.out.c4; clear hb))
        | (go_at_call 37; have _t := HX1; ((with_reducible refine (HsP.out _ HX1.out).mono ?_); rintro u w12 ⟨rfl, hb⟩; have HX2 := Lib.hid (btO HX1.out hb); have HY2 := Lib.hid (btO HY1.out hb); have HV2 := Lib.hid (HV1.out.below hb); have z20 := HV2.out.c0; have z21 := HV2.out.c1; have z22 := HV2.out.c2; have z23 := HV2.out.c3; have z24 := HV2.out.c4; clear hb))
        | (go_at_call 34; have _t := HX0; ((with_reducible refine (HgP.out _ HX0.out).mono ?_); rintro u w11 ⟨rfl, hb⟩; have HX1 := Lib.hid (btO HX0.out hb); have HY1 := Lib.hid (btO HY0.out hb); have HV1 := Lib.hid (HV0.out.below hb); have z10 := HV1.out.c0; have z11 := HV1.out.c1; have z12 := HV1.out.c2; have z13 := HV1.out.c3; have z14 := HV1.out.c4; clear hb)))
      go_roundw
      all_goals first
        | exact ⟨1, by omega, rfl, HY3⟩
        | (simp [intOf]; done)
    · skip
      have t0 := cellO HW.out (row_cell (j := 5) HR.out rfl)
      have t1 := cellO HW.out (row_cell (j := 6) HR.out rfl)
      have t2 := cellO HW.out (row_cell (j := 7) HR.out rfl)
      have t3 := cellO HW.out (row_cell (j := 8) HR.out rfl)
      have t4 := cellO HW.out (row_cell (j := 9) HR.out rfl)
      have HX := Lib.hid (btO HW3.out HW.out)
      have HV0 : Hid (Ex.Box (wr.alloc (.cells #[.int .u8 R.k, .string R.r, .string R.n, .int .i64 R.d, .slice R.A R.sub.length R.c] 26)) wr.heap.size R) := Ex.Box.new wr R 26
      have HX0 := Lib.hid (btO HX.out (belO wr (.cells #[.int .u8 R.k, .string R.r, .string R.n, .int .i64 R.d, .slice R.A R.sub.length R.c] 26)))
      have HY0 := Lib.hid (btO HW.out (belO wr (.cells #[.int .u8 R.k, .string R.r, .string R.n, .int .i64 R.d, .slice R.A R.sub.length R.c] 26)))
      go_wp2_with (first
        | (go_at_call 38; have _t := HX2; ((with_reducible refine (HdR.out _ HX2.out).mono ?_); rintro u w13 ⟨rfl, hb⟩; have HX3 := Lib.hid (btO HX2.out hb); have HY3 := Lib.hid (btO HY2.out hb); have HV3 := Lib.hid (HV2.out.below hb); have z30 := HV3.out.c0; have z31 := HV3.out.c1; have z32 := HV3.out.c2; have z33 := HV3.out.c3; have z34 := HV3.out.c4; clear hb))
        | (go_at_call 37; have _t := HX1; ((with_reducible refine (HsR.out _ HX1.out).mono ?_); rintro u w12 ⟨rfl, hb⟩; have HX2 := Lib.hid (btO HX1.out hb); have HY2 := Lib.hid (btO HY1.out hb); have HV2 := Lib.hid (HV1.out.below hb); have z20 := HV2.out.c0; have z21 := HV2.out.c1; have z22 := HV2.out.c2; have z23 := HV2.out.c3; have z24 := HV2.out.c4; clear hb))
        | (go_at_call 34; have _t := HX0; ((with_reducible refine (HgR.out _ HX0.out).mono ?_); rintro u w11 ⟨rfl, hb⟩; have HX1 := Lib.hid (btO HX0.out hb); have HY1 := Lib.hid (btO HY0.out hb); have HV1 := Lib.hid (HV0.out.below hb); have z10 := HV1.out.c0; have z11 := HV1.out.c1; have z12 := HV1.out.c2; have z13 := HV1.out.c3; have z14 := HV1.out.c4; clear hb)))
      go_roundw
      all_goals first
        | exact ⟨2, by omega, rfl, HY3⟩
        | (simp [intOf]; done)
    · skip
      have t0 := cellO HW.out (row_cell (j := 10) HR.out rfl)
      have t1 := cellO HW.out (row_cell (j := 11) HR.out rfl)
      have t2 := cellO HW.out (row_cell (j := 12) HR.out rfl)
      have t3 := cellO HW.out (row_cell (j := 13) HR.out rfl)
      have t4 := cellO HW.out (row_cell (j := 14) HR.out rfl)
      have HX := Lib.hid (btO HW3.out HW.out)
      have HV0 : Hid (Ex.Box (wr.alloc (.cells #[.int .u8 X.k, .string X.r, .string X.n, .int .i64 X.d, .slice X.A X.sub.length X.c] 26)) wr.heap.size X) := Ex.Box.new wr X 26
      have HX0 := Lib.hid (btO HX.out (belO wr (.cells #[.int .u8 X.k, .string X.r, .string X.n, .int .i64 X.d, .slice X.A X.sub.length X.c] 26)))
      have HY0 := Lib.hid (btO HW.out (belO wr (.cells #[.int .u8 X.k, .string X.r, .string X.n, .int .i64 X.d, .slice X.A X.sub.length X.c] 26)))
      go_wp2_with (first
        | (go_at_call 38; have _t := HX2; ((with_reducible refine (HdX.out _ HX2.out).mono ?_); rintro u w13 ⟨rfl, hb⟩; have HX3 := Lib.hid (btO HX2.out hb); have HY3 := Lib.hid (btO HY2.out hb); have HV3 := Lib.hid (HV2.out.below hb); have z30 := HV3.out.c0; have z31 := HV3.out.c1; have z32 := HV3.out.c2; have z33 := HV3.out.c3; have z34 := HV3.out.c4; clear hb))
        | (go_at_call 37; have _t := HX1; ((with_reducible refine (HsX.out _ HX1.out).mono ?_); rintro u w12 ⟨rfl, hb⟩; have HX2 := Lib.hid (btO HX1.out hb); have HY2 := Lib.hid (btO HY1.out hb); have HV2 := Lib.hid (HV1.out.below hb); have z20 := HV2.out.c0; have z21 := HV2.out.c1; have z22 := HV2.out.c2; have z23 := HV2.out.c3; have z24 := HV2.out.c4; clear hb))
        | (go_at_call 34; have _t := HX0; ((with_reducible refine (HgX.out _ HX0.out).mono ?_); rintro u w11 ⟨rfl, hb⟩; have HX1 := Lib.hid (btO HX0.out hb); have HY1 := Lib.hid (btO HY0.out hb); have HV1 := Lib.hid (HV0.out.below hb); have z10 := HV1.out.c0; have z11 := HV1.out.c1; have z12 := HV1.out.c2; have z13 := HV1.out.c3; have z14 := HV1.out.c4; clear hb)))
      go_roundw
      all_goals first
        | exact ⟨3, by omega, rfl, HY3⟩
        | (simp [intOf]; done)
    · skip
      have t0 := cellO HW.out (row_cell (j := 15) HR.out rfl)
      have t1 := cellO HW.out (row_cell (j := 16) HR.out rfl)
      have t2 := cellO HW.out (row_cell (j := 17) HR.out rfl)
      have t3 := cellO HW.out (row_cell (j := 18) HR.out rfl)
      have t4 := cellO HW.out (row_cell (j := 19) HR.out rfl)
      have HX := Lib.hid (btO HW3.out HW.out)
      have HV0 : Hid (Ex.Box (wr.alloc (.cells #[.int .u8 Y.k, .string Y.r, .string Y.n, .int .i64 Y.d, .slice Y.A Y.sub.length Y.c] 26)) wr.heap.size Y) := Ex.Box.new wr Y 26
      have HX0 := Lib.hid (btO HX.out (belO wr (.cells #[.int .u8 Y.k, .string Y.r, .string Y.n, .int .i64 Y.d, .slice Y.A Y.sub.length Y.c] 26)))
      have HY0 := Lib.hid (btO HW.out (belO wr (.cells #[.int .u8 Y.k, .string Y.r, .string Y.n, .int .i64 Y.d, .slice Y.A Y.sub.length Y.c] 26)))
      go_wp2_with (first
        | (go_at_call 38; have _t := HX2; ((with_reducible refine (HdY.out _ HX2.out).mono ?_); rintro u w13 ⟨rfl, hb⟩; have HX3 := Lib.hid (btO HX2.out hb); have HY3 := Lib.hid (btO HY2.out hb); have HV3 := Lib.hid (HV2.out.below hb); have z30 := HV3.out.c0; have z31 := HV3.out.c1; have z32 := HV3.out.c2; have z33 := HV3.out.c3; have z34 := HV3.out.c4; clear hb))
        | (go_at_call 37; have _t := HX1; ((with_reducible refine (HsY.out _ HX1.out).mono ?_); rintro u w12 ⟨rfl, hb⟩; have HX2 := Lib.hid (btO HX1.out hb); have HY2 := Lib.hid (btO HY1.out hb); have HV2 := Lib.hid (HV1.out.below hb); have z20 := HV2.out.c0; have z21 := HV2.out.c1; have z22 := HV2.out.c2; have z23 := HV2.out.c3; have z24 := HV2.out.c4; clear hb))
        | (go_at_call 34; have _t := HX0; ((with_reducible refine (HgY.out _ HX0.out).mono ?_); rintro u w11 ⟨rfl, hb⟩; have HX1 := Lib.hid (btO HX0.out hb); have HY1 := Lib.hid (btO HY0.out hb); have HV1 := Lib.hid (HV0.out.below hb); have z10 := HV1.out.c0; have z11 := HV1.out.c1; have z12 := HV1.out.c2; have z13 := HV1.out.c3; have z14 := HV1.out.c4; clear hb)))
      go_roundw
      all_goals first
        | exact ⟨4, by omega, rfl, HY3⟩
        | (simp [intOf]; done)
    · skip
      have HX20 := Lib.hid (btO HW3.out HW.out)
      obtain ⟨a0, a1, a2, a3, a4, b0, b1, b2, b3, b4, x0, x1, x2, x3, x4, y0, y1, y2, y3, y4, v0, v1⟩ := HG.out _ HX20.out
      rcases Key.out with ⟨he, rfl, rfl, rfl, rfl, rfl, rfl, rfl, rfl⟩ | ⟨rfl, rfl, rfl, rfl, rfl, rfl, rfl, rfl, rfl, rfl, rfl, rfl⟩ | ⟨rfl, rfl, rfl, rfl, rfl, rfl, rfl, rfl, rfl, rfl, rfl, rfl⟩ | ⟨rfl, rfl, rfl, rfl, rfl, rfl, rfl, rfl, rfl, hf, rfl, rfl⟩ | ⟨rfl, rfl, rfl, rfl, rfl, rfl, rfl, rfl, rfl, rfl, rfl, rfl⟩ | ⟨rfl, rfl, rfl, rfl, rfl, rfl, rfl, rfl, rfl, rfl, rfl, rfl⟩ | ⟨rfl, rfl, rfl, rfl, rfl, rfl, rfl, rfl, rfl, hf, rfl, rfl⟩
      all_goals (
        clear Key
        go_wp2_with (first
            | (go_at_call 18; have _t := HX26; ((with_reducible refine (HhR.out _ HX26.out).mono ?_); rintro u w27 ⟨rfl, hb⟩; clear a0 a1 a2 a3 a4 b0 b1 b2 b3 b4 x0 x1 x2 x3 x4 y0 y1 y2 y3 y4 v0 v1; have HX27 := Lib.hid (btO HX26.out hb); obtain ⟨a0, a1, a2, a3, a4, b0, b1, b2, b3, b4, x0, x1, x2, x3, x4, y0, y1, y2, y3, y4, v0, v1⟩ := HG.out _ HX27.out; clear hb))
            | (go_at_call 18; have _t := HX25; ((with_reducible refine (HhP.out _ HX25.out).mono ?_); rintro u w26 ⟨rfl, hb⟩; clear a0 a1 a2 a3 a4 b0 b1 b2 b3 b4 x0 x1 x2 x3 x4 y0 y1 y2 y3 y4 v0 v1; have HX26 := Lib.hid (btO HX25.out hb); obtain ⟨a0, a1, a2, a3, a4, b0, b1, b2, b3, b4, x0, x1, x2, x3, x4, y0, y1, y2, y3, y4, v0, v1⟩ := HG.out _ HX26.out; clear hb))
            | (go_at_call 14; have _t := HX24; ((with_reducible refine (HnY.out _ HX24.out).mono ?_); rintro u w25 ⟨rfl, hb⟩; clear a0 a1 a2 a3 a4 b0 b1 b2 b3 b4 x0 x1 x2 x3 x4 y0 y1 y2 y3 y4 v0 v1; have HX25 := Lib.hid (btO HX24.out hb); obtain ⟨a0, a1, a2, a3, a4, b0, b1, b2, b3, b4, x0, x1, x2, x3, x4, y0, y1, y2, y3, y4, v0, v1⟩ := HG.out _ HX25.out; clear hb))
            | (go_at_call 14; have _t := HX23; ((with_reducible refine (HnX.out _ HX23.out).mono ?_); rintro u w24 ⟨rfl, hb⟩; clear a0 a1 a2 a3 a4 b0 b1 b2 b3 b4 x0 x1 x2 x3 x4 y0 y1 y2 y3 y4 v0 v1; have HX24 := Lib.hid (btO HX23.out hb); obtain ⟨a0, a1, a2, a3, a4, b0, b1, b2, b3, b4, x0, x1, x2, x3, x4, y0, y1, y2, y3, y4, v0, v1⟩ := HG.out _ HX24.out; clear hb))
            | (go_at_call 15; have _t := HX22; ((with_reducible refine (HtR.out _ HX22.out).mono ?_); rintro u w23 ⟨rfl, hb⟩; clear a0 a1 a2 a3 a4 b0 b1 b2 b3 b4 x0 x1 x2 x3 x4 y0 y1 y2 y3 y4 v0 v1; have HX23 := Lib.hid (btO HX22.out hb); obtain ⟨a0, a1, a2, a3, a4, b0, b1, b2, b3, b4, x0, x1, x2, x3, x4, y0, y1, y2, y3, y4, v0, v1⟩ := HG.out _ HX23.out; clear hb))
            | (go_at_call 15; have _t := HX21; ((with_reducible refine (HtP.out _ HX21.out).mono ?_); rintro u w22 ⟨rfl, hb⟩; clear a0 a1 a2 a3 a4 b0 b1 b2 b3 b4 x0 x1 x2 x3 x4 y0 y1 y2 y3 y4 v0 v1; have HX22 := Lib.hid (btO HX21.out hb); obtain ⟨a0, a1, a2, a3, a4, b0, b1, b2, b3, b4, x0, x1, x2, x3, x4, y0, y1, y2, y3, y4, v0, v1⟩ := HG.out _ HX22.out; clear hb))
            | (go_at_call 24; have _t := HX20; ((with_reducible refine (Hgv.out _ HX20.out).mono ?_); rintro u w21 ⟨rfl, hb⟩; clear a0 a1 a2 a3 a4 b0 b1 b2 b3 b4 x0 x1 x2 x3 x4 y0 y1 y2 y3 y4 v0 v1; have HX21 := Lib.hid (btO HX20.out hb); obtain ⟨a0, a1, a2, a3, a4, b0, b1, b2, b3, b4, x0, x1, x2, x3, x4, y0, y1, y2, y3, y4, v0, v1⟩ := HG.out _ HX21.out; clear hb)))
        have BR28 := (Below.drew HX27.out)
        go_region_held3 (fun w' => w'.cell? ⟨w.heap.size, 0, none⟩ = some (.int .u8 P.k) ∧ w'.cell? ⟨w.heap.size, 1, none⟩ = some (.string P.r) ∧ w'.cell? ⟨w.heap.size, 2, none⟩ = some (.string P.n) ∧ w'.cell? ⟨w.heap.size, 3, none⟩ = some (.int .i64 P.d) ∧ w'.cell? ⟨w.heap.size, 4, none⟩ = some (.slice P.A P.sub.length P.c) ∧ w'.cell? ⟨w.heap.size + 1, 0, none⟩ = some (.int .u8 R.k) ∧ w'.cell? ⟨w.heap.size + 1, 1, none⟩ = some (.string R.r) ∧ w'.cell? ⟨w.heap.size + 1, 2, none⟩ = some (.string R.n) ∧ w'.cell? ⟨w.heap.size + 1, 3, none⟩ = some (.int .i64 R.d) ∧ w'.cell? ⟨w.heap.size + 1, 4, none⟩ = some (.slice R.A R.sub.length R.c) ∧ w'.cell? ⟨w.heap.size + 1 + 1 + 1 + 1, 0, none⟩ = some (.slice E.fA E.fs.length E.fc) ∧ w'.cell? ⟨w.heap.size + 1 + 1 + 1 + 1, 1, none⟩ = some (.slice E.cA E.cs.length E.cc))
          (((try go_split_ands); (and_intros) <;> first | assumption | (go_keep; done)))
          (first
            | (go_split_ands; go_at_call 12; refine (Hp.out _ BR28 13 (by decide) (by decide)).mono ?_; rintro u w28 ⟨bb28, rfl, hi, hb⟩; have B28 := btO BR28 hb; obtain ⟨i28_a0, i28_a1, i28_a2, i28_a3, i28_a4, i28_b0, i28_b1, i28_b2, i28_b3, i28_b4, i28_x0, i28_x1, i28_x2, i28_x3, i28_x4, i28_y0, i28_y1, i28_y2, i28_y3, i28_y4, i28_v0, i28_v1⟩ := HG.out _ B28; have HT28 := Lib.hid hi; have HV28 := Lib.hid (fun W hW hT => Hand.out W hW bb28 hT); clear hi hb; generalize pairT 13 bb28 P R = T28 at *)
            | (go_split_ands; go_at_call 18; refine (HV28.out _ B28 HT28.out).mono ?_; rintro u w29 ⟨rfl, hb⟩; have B29 := btO B28 hb; obtain ⟨j28_a0, j28_a1, j28_a2, j28_a3, j28_a4, j28_b0, j28_b1, j28_b2, j28_b3, j28_b4, j28_x0, j28_x1, j28_x2, j28_x3, j28_x4, j28_y0, j28_y1, j28_y2, j28_y3, j28_y4, j28_v0, j28_v1⟩ := HG.out _ B29; clear hb))
        all_goals go_wp2_with (fail)
        all_goals (
          have BR30 := (Below.drew B29)
          go_region_held3 (fun w' => w'.cell? ⟨w.heap.size, 0, none⟩ = some (.int .u8 P.k) ∧ w'.cell? ⟨w.heap.size, 1, none⟩ = some (.string P.r) ∧ w'.cell? ⟨w.heap.size, 2, none⟩ = some (.string P.n) ∧ w'.cell? ⟨w.heap.size, 3, none⟩ = some (.int .i64 P.d) ∧ w'.cell? ⟨w.heap.size, 4, none⟩ = some (.slice P.A P.sub.length P.c) ∧ w'.cell? ⟨w.heap.size + 1, 0, none⟩ = some (.int .u8 R.k) ∧ w'.cell? ⟨w.heap.size + 1, 1, none⟩ = some (.string R.r) ∧ w'.cell? ⟨w.heap.size + 1, 2, none⟩ = some (.string R.n) ∧ w'.cell? ⟨w.heap.size + 1, 3, none⟩ = some (.int .i64 R.d) ∧ w'.cell? ⟨w.heap.size + 1, 4, none⟩ = some (.slice R.A R.sub.length R.c) ∧ w'.cell? ⟨w.heap.size + 1 + 1 + 1 + 1, 0, none⟩ = some (.slice E.fA E.fs.length E.fc) ∧ w'.cell? ⟨w.heap.size + 1 + 1 + 1 + 1, 1, none⟩ = some (.slice E.cA E.cs.length E.cc))
            (((try go_split_ands); (and_intros) <;> first | assumption | (go_keep; done)))
            (first
              | (go_split_ands; go_at_call 12; refine (Hp.out _ BR30 14 (by decide) (by decide)).mono ?_; rintro u w30 ⟨bb30, rfl, hi, hb⟩; have B30 := btO BR30 hb; obtain ⟨i30_a0, i30_a1, i30_a2, i30_a3, i30_a4, i30_b0, i30_b1, i30_b2, i30_b3, i30_b4, i30_x0, i30_x1, i30_x2, i30_x3, i30_x4, i30_y0, i30_y1, i30_y2, i30_y3, i30_y4, i30_v0, i30_v1⟩ := HG.out _ B30; have HT30 := Lib.hid hi; have HV30 := Lib.hid (fun W hW hT => Hor.out W hW bb30 hT); clear hi hb; generalize pairT 14 bb30 P R = T30 at *)
              | (go_split_ands; go_at_call 18; refine (HV30.out _ B30 HT30.out).mono ?_; rintro u w31 ⟨rfl, hb⟩; have B31 := btO B30 hb; obtain ⟨j30_a0, j30_a1, j30_a2, j30_a3, j30_a4, j30_b0, j30_b1, j30_b2, j30_b3, j30_b4, j30_x0, j30_x1, j30_x2, j30_x3, j30_x4, j30_y0, j30_y1, j30_y2, j30_y3, j30_y4, j30_v0, j30_v1⟩ := HG.out _ B31; have dv0 := fun o : Obj => cellO (belO w31 o) j30_v0; have dv1 := fun o : Obj => cellO (belO w31 o) j30_v1; clear hb))
          all_goals go_wp2_with (first
            | (go_at_call 17; have _t := HX35; ((with_reducible refine (HvX.out _ (btO HX35.out (belO _ _))).mono ?_); rintro u w37 ⟨rfl, hb⟩; have HX37 := Lib.hid (btO (btO HX35.out (belO _ _)) hb); clear hb))
            | (go_at_call 17; have _t := HX35; ((with_reducible refine (HvY.out _ (btO HX35.out (belO _ _))).mono ?_); rintro u w37 ⟨rfl, hb⟩; have HX37 := Lib.hid (btO (btO HX35.out (belO _ _)) hb); clear hb))
            | (go_at_call 17; have _t := HX33.out; ((with_reducible refine (Hwhen.out _ (btO HX33.out (belO _ _)) _ (built3 9 (by decide) (by decide) P X Y _ _ (HIP.out _ HX33.out) (HIX.out _ HX33.out) (HIY.out _ HX33.out))).mono ?_); rintro u w35 ⟨rfl, hb⟩; have HX35 := Lib.hid (btO (btO HX33.out (belO w33 (.cells #[.int .u8 P.k, .string P.r, .string P.n, .int .i64 P.d, .slice P.A P.sub.length P.c, .int .u8 X.k, .string X.r, .string X.n, .int .i64 X.d, .slice X.A X.sub.length X.c, .int .u8 Y.k, .string Y.r, .string Y.n, .int .i64 Y.d, .slice Y.A Y.sub.length Y.c] 26))) hb); obtain ⟨a0, a1, a2, a3, a4, b0, b1, b2, b3, b4, x0, x1, x2, x3, x4, y0, y1, y2, y3, y4, v0, v1⟩ := HG.out _ HX35.out; have dx0 := fun o : Obj => cellO (belO w35 o) x0; have dx1 := fun o : Obj => cellO (belO w35 o) x1; have dx2 := fun o : Obj => cellO (belO w35 o) x2; have dx3 := fun o : Obj => cellO (belO w35 o) x3; have dx4 := fun o : Obj => cellO (belO w35 o) x4; have dy0 := fun o : Obj => cellO (belO w35 o) y0; have dy1 := fun o : Obj => cellO (belO w35 o) y1; have dy2 := fun o : Obj => cellO (belO w35 o) y2; have dy3 := fun o : Obj => cellO (belO w35 o) y3; have dy4 := fun o : Obj => cellO (belO w35 o) y4; have dv0 := fun o : Obj => cellO (belO w35 o) v0; have dv1 := fun o : Obj => cellO (belO w35 o) v1; clear hb))
            | (go_at_call 18; have _t := B31; ((with_reducible refine (Hnot.out _ (btO B31 (belO _ _)) _ (built1 15 (by decide) (by decide) P _ _ (HIP.out _ B31))).mono ?_); rintro u w33 ⟨rfl, hb⟩; have HX33 := Lib.hid (btO (btO B31 (belO w31 (.cells #[.int .u8 P.k, .string P.r, .string P.n, .int .i64 P.d, .slice P.A P.sub.length P.c] 26))) hb); obtain ⟨a0, a1, a2, a3, a4, b0, b1, b2, b3, b4, x0, x1, x2, x3, x4, y0, y1, y2, y3, y4, v0, v1⟩ := HG.out _ HX33.out; have dv0 := fun o : Obj => cellO (belO w33 o) v0; have dv1 := fun o : Obj => cellO (belO w33 o) v1; clear hb)))
          all_goals go_ret
          all_goals exact ⟨rfl, btO HB.out (by first | exact HX37.out | exact HX35.out)⟩))
end Go.Proofs.YtnomccgdajcfiaaGreatDoor
/- The law ObservableLogic. -/
namespace Go.Proofs.YtnomccgdajcfiaaGreatDoor
open Go Go.RowKit
theorem tr_getD {l : List (NR × TR)} (h : ∀ x ∈ l, x.2.2 ≠ 0 → x.2.1 = false) (i : Nat) : (l.getD i zNT).2.2 ≠ 0 → (l.getD i zNT).2.1 = false := by
  rw [List.getD_eq_getElem?_getD]
  rcases Nat.lt_or_ge i l.length with hi | hi
  · rw [List.getElem?_eq_getElem hi]; exact h _ (List.getElem_mem hi)
  · rw [List.getElem?_eq_none hi]; exact fun e => absurd rfl e
theorem cpT_fail (k : Int) (a b : ByteArray) (h : (cpT k a b).2 ≠ 0) : (cpT k a b).1 = false := by
  unfold cpT at h ⊢
  split
  · next g => rw [if_pos g] at h; exact absurd rfl h
  · rfl
theorem cpR_fail (k : Int) (x y : NR) (h : (cpR k x y).2 ≠ 0) : (cpR k x y).1 = false := by
  unfold cpR at h ⊢
  split
  · rfl
  next g =>
  rw [if_neg g] at h
  split
  · rfl
  next g =>
  rw [if_neg g] at h
  exact cpT_fail _ _ _ h
theorem anR_fail (k : Int) (p q : TR) (hq : q.2 ≠ 0 → q.1 = false) (h : (anR k p q).2 ≠ 0) : (anR k p q).1 = false := by
  unfold anR at h ⊢
  split
  · rfl
  next g =>
  rw [if_neg g] at h
  split
  · next g2 => rw [if_pos g2] at h; exact absurd rfl h
  next g2 =>
  rw [if_neg g2] at h
  exact hq h
theorem ntR_fail (p : TR) (h : (ntR p).2 ≠ 0) : (ntR p).1 = false := by
  unfold ntR at h ⊢
  split
  · rfl
  · next g => rw [if_neg g] at h; exact absurd rfl h
theorem Ex.ev_err (fs : List Fx) (day : Int) (t : Ex) : (t.ev fs day).2.2 ≠ 0 → (t.ev fs day).2.1 = false := by
  induction t using Ex.ind with
  | h k r n d A c s ih =>
  rw [Ex.ev_mk]
  show (evT k _).2 ≠ 0 → (evT k _).1 = false
  have hs : ∀ x ∈ s.map (Ex.ev fs day), x.2.2 ≠ 0 → x.2.1 = false := by
    intro x hx
    obtain ⟨t, ht, rfl⟩ := List.mem_map.1 hx
    exact ih t ht
  unfold evT
  split
  · exact ntR_fail _
  split
  · exact anR_fail _ _ _ (tr_getD hs 1)
  · exact cpR_fail _ _ _
theorem hldT_err {t : Ex} {day : Int} {fs : List Fx} {cs : List Cx} (h : (hldT t day fs cs).2 ≠ 0) : (hldT t day fs cs).1 = false := by
  unfold hldT at h ⊢
  split
  · rfl
  · next g => rw [if_neg g] at h; exact Ex.ev_err _ _ _ h
theorem not_fails {g : Bool} {s d : Int} (h : ¬ (g = true ∨ (g = false ∧ 100 < s) ∨ (g = false ∧ ¬ 100 < s ∧ 59 < d))) : g = false ∧ ¬ 100 < s ∧ ¬ 59 < d := by
  cases g
  · exact ⟨rfl, fun h1 => h (.inr (.inl ⟨rfl, h1⟩)), fun h2 => by
      by_cases h1 : 100 < s
      · exact h (.inr (.inl ⟨rfl, h1⟩))
      · exact h (.inr (.inr ⟨rfl, h1, h2⟩))⟩
  · exact absurd (.inl rfl) h
theorem pairL_siz (k : Int) (b : Nat) (x y : Ex) : (pairT k b x y).siz = 1 + (x.siz + y.siz) := by unfold pairT; rw [Ex.siz_mk]; simp
theorem mkL_byt (k : Int) (A : Option Addr) (c : Nat) (l : List Ex) : (Ex.mk k ⟨#[]⟩ ⟨#[]⟩ 0 A c l).byt = (l.map Ex.byt).sum := by
  rw [Ex.byt_mk]
  have h : (⟨#[]⟩ : ByteArray).size = 0 := rfl
  rw [h]; omega
section
variable (P R X Y : Ex) (E : Ev) (day : Int) (w : World) (hP : P.In w) (hR : R.In w) (hX : X.In w) (hY : Y.In w) (hE : E.Inv w)
include hP hR hX hY hE
theorem logic_law8 : Calls Tryz.prog 7 #[P.val, R.val, X.val, Y.val, .int .i64 day, E.val] w (BoolRO true w) := by
  have hal : ∀ W, Below w.heap.size w W → Calls Tryz.prog 23 #[] W (BoolRO true W) := fun W hW => alive_any8 W (hE.below hW).v
  have hgP : ∀ W, Below w.heap.size w W → Calls Tryz.prog 34 #[P.val] W (BoolRO P.grt W) := fun W hW => great_anyO P W (hP.below hW)
  have hsP : P.grt = false → ∀ W, Below w.heap.size w W → Calls Tryz.prog 37 #[P.val] W (IntRO P.siz W) := fun h W hW => rsize8_any P W (hP.below hW) (Ex.grt_not h).1
  have hdP : P.grt = false → ∀ W, Below w.heap.size w W → Calls Tryz.prog 38 #[P.val] W (IntRO P.dep W) := fun h W hW => rdepth8_any P W (hP.below hW) (Ex.grt_not h).1
  have hgR : ∀ W, Below w.heap.size w W → Calls Tryz.prog 34 #[R.val] W (BoolRO R.grt W) := fun W hW => great_anyO R W (hR.below hW)
  have hsR : R.grt = false → ∀ W, Below w.heap.size w W → Calls Tryz.prog 37 #[R.val] W (IntRO R.siz W) := fun h W hW => rsize8_any R W (hR.below hW) (Ex.grt_not h).1
  have hdR : R.grt = false → ∀ W, Below w.heap.size w W → Calls Tryz.prog 38 #[R.val] W (IntRO R.dep W) := fun h W hW => rdepth8_any R W (hR.below hW) (Ex.grt_not h).1
  have hgX : ∀ W, Below w.heap.size w W → Calls Tryz.prog 34 #[X.val] W (BoolRO X.grt W) := fun W hW => great_anyO X W (hX.below hW)
  have hsX : X.grt = false → ∀ W, Below w.heap.size w W → Calls Tryz.prog 37 #[X.val] W (IntRO X.siz W) := fun h W hW => rsize8_any X W (hX.below hW) (Ex.grt_not h).1
  have hdX : X.grt = false → ∀ W, Below w.heap.size w W → Calls Tryz.prog 38 #[X.val] W (IntRO X.dep W) := fun h W hW => rdepth8_any X W (hX.below hW) (Ex.grt_not h).1
  have hgY : ∀ W, Below w.heap.size w W → Calls Tryz.prog 34 #[Y.val] W (BoolRO Y.grt W) := fun W hW => great_anyO Y W (hY.below hW)
  have hsY : Y.grt = false → ∀ W, Below w.heap.size w W → Calls Tryz.prog 37 #[Y.val] W (IntRO Y.siz W) := fun h W hW => rsize8_any Y W (hY.below hW) (Ex.grt_not h).1
  have hdY : Y.grt = false → ∀ W, Below w.heap.size w W → Calls Tryz.prog 38 #[Y.val] W (IntRO Y.dep W) := fun h W hW => rdepth8_any Y W (hY.below hW) (Ex.grt_not h).1
  by_cases fP : P.grt = true ∨ (P.grt = false ∧ 100 < (P.siz : Int)) ∨ (P.grt = false ∧ ¬ 100 < (P.siz : Int) ∧ 59 < (P.dep : Int))
  · exact logic_out P R X Y E day _ _ _ _ _ _ _ _ _ _ _ _ w hal hgP hsP hdP hgR hsR hdR hgX hsX hdX hgY hsY hdY (.inl (fP))
  obtain ⟨gP, cP, eP⟩ := not_fails fP
  by_cases fR : R.grt = true ∨ (R.grt = false ∧ 100 < (R.siz : Int)) ∨ (R.grt = false ∧ ¬ 100 < (R.siz : Int) ∧ 59 < (R.dep : Int))
  · exact logic_out P R X Y E day _ _ _ _ _ _ _ _ _ _ _ _ w hal hgP hsP hdP hgR hsR hdR hgX hsX hdX hgY hsY hdY (.inr (.inl (⟨gP, cP, eP, fR⟩)))
  obtain ⟨gR, cR, eR⟩ := not_fails fR
  by_cases fX : X.grt = true ∨ (X.grt = false ∧ 100 < (X.siz : Int)) ∨ (X.grt = false ∧ ¬ 100 < (X.siz : Int) ∧ 59 < (X.dep : Int))
  · exact logic_out P R X Y E day _ _ _ _ _ _ _ _ _ _ _ _ w hal hgP hsP hdP hgR hsR hdR hgX hsX hdX hgY hsY hdY (.inr (.inr (.inl (⟨gP, cP, eP, gR, cR, eR, fX⟩))))
  obtain ⟨gX, cX, eX⟩ := not_fails fX
  by_cases fY : Y.grt = true ∨ (Y.grt = false ∧ 100 < (Y.siz : Int)) ∨ (Y.grt = false ∧ ¬ 100 < (Y.siz : Int) ∧ 59 < (Y.dep : Int))
  · exact logic_out P R X Y E day _ _ _ _ _ _ _ _ _ _ _ _ w hal hgP hsP hdP hgR hsR hdR hgX hsX hdX hgY hsY hdY (.inr (.inr (.inr (⟨gP, cP, eP, gR, cR, eR, gX, cX, eX, fY⟩))))
  obtain ⟨gY, cY, eY⟩ := not_fails fY
  replace hsP := hsP gP
  replace hdP := hdP gP
  rw [gP] at hgP
  obtain ⟨zP1, -, zP3⟩ := Ex.grt_not gP
  have yP := Ex.grt_byt gP
  have uP : P.siz ≤ 100 := by omega
  have vP : P.dep ≤ 59 := by omega
  replace hsR := hsR gR
  replace hdR := hdR gR
  rw [gR] at hgR
  obtain ⟨zR1, -, zR3⟩ := Ex.grt_not gR
  have yR := Ex.grt_byt gR
  have uR : R.siz ≤ 100 := by omega
  have vR : R.dep ≤ 59 := by omega
  replace hsX := hsX gX
  replace hdX := hdX gX
  rw [gX] at hgX
  obtain ⟨zX1, -, zX3⟩ := Ex.grt_not gX
  have yX := Ex.grt_byt gX
  have uX : X.siz ≤ 100 := by omega
  have vX : X.dep ≤ 59 := by omega
  replace hsY := hsY gY
  replace hdY := hdY gY
  rw [gY] at hgY
  obtain ⟨zY1, -, zY3⟩ := Ex.grt_not gY
  have yY := Ex.grt_byt gY
  have uY : Y.siz ≤ 100 := by omega
  have vY : Y.dep ≤ 59 := by omega
  have hgv : ∀ W, Below w.heap.size w W → Calls Tryz.prog 24 #[E.val] W (BoolRO E.grt W) := fun W hW => greatEnv_any E W (hE.below hW).i
  have htP : ∀ W, Below w.heap.size w W → Calls Tryz.prog 15 #[P.val] W (BoolRO (P.isB 2) W) := fun W hW => ptruth_any P W (hP.below hW) zP3 (hE.below hW).v
  have htR : ∀ W, Below w.heap.size w W → Calls Tryz.prog 15 #[R.val] W (BoolRO (R.isB 2) W) := fun W hW => ptruth_any R W (hR.below hW) zR3 (hE.below hW).v
  have hnX : ∀ W, Below w.heap.size w W → Calls Tryz.prog 14 #[X.val] W (BoolRO (X.isB 1) W) := fun W hW => pnumber_any X W (hX.below hW) zX3 (hE.below hW).v
  have hnY : ∀ W, Below w.heap.size w W → Calls Tryz.prog 14 #[Y.val] W (BoolRO (Y.isB 1) W) := fun W hW => pnumber_any Y W (hY.below hW) zY3 (hE.below hW).v
  rcases Bool.eq_false_or_eq_true (E.grt) with bv | bv
  · exact logic_env P R X Y E day _ _ _ _ _ _ _ _ _ _ _ _ _ w hal hgP hsP hdP hgR hsR hdR hgX hsX hdX hgY hsY hdY hgv htP htR hnX hnY cP eP cR eR cX eX cY eY (.inl (⟨bv, trivial⟩))
  cases tP : P.isB 2
  · exact logic_env P R X Y E day _ _ _ _ _ _ _ _ _ _ _ _ _ w hal hgP hsP hdP hgR hsR hdR hgX hsX hdX hgY hsY hdY hgv htP htR hnX hnY cP eP cR eR cX eX cY eY (.inr (.inl (⟨bv, tP⟩)))
  cases tR : R.isB 2
  · exact logic_env P R X Y E day _ _ _ _ _ _ _ _ _ _ _ _ _ w hal hgP hsP hdP hgR hsR hdR hgX hsX hdX hgY hsY hdY hgv htP htR hnX hnY cP eP cR eR cX eX cY eY (.inr (.inr (.inl (⟨bv, tP, tR⟩))))
  cases nX : X.isB 1
  · exact logic_env P R X Y E day _ _ _ _ _ _ _ _ _ _ _ _ _ w hal hgP hsP hdP hgR hsR hdR hgX hsX hdX hgY hsY hdY hgv htP htR hnX hnY cP eP cR eR cX eX cY eY (.inr (.inr (.inr (.inl (⟨bv, tP, tR, nX⟩)))))
  cases nY : Y.isB 1
  · exact logic_env P R X Y E day _ _ _ _ _ _ _ _ _ _ _ _ _ w hal hgP hsP hdP hgR hsR hdR hgX hsX hdX hgY hsY hdY hgv htP htR hnX hnY cP eP cR eR cX eX cY eY (.inr (.inr (.inr (.inr (⟨bv, tP, tR, nX, nY⟩)))))
  obtain ⟨-, -, s1, -⟩ := Ev.grt_not bv
  have hsf : ∀ f ∈ E.fs, f.2.2.size ≤ 1048576 := fun f hf => by have := (s1 f hf).2; omega
  rw [bv] at hgv; rw [tP] at htP; rw [tR] at htR; rw [nX] at hnX; rw [nY] at hnY
  have hhP : ∀ W, Below w.heap.size w W → Calls Tryz.prog 18 #[P.val, .int .i64 day, E.val] W (TrE (hldT P day E.fs E.cs).1 (hldT P day E.fs E.cs).2 W) := fun W hW => pholds_any P E day W (hP.below hW) (hE.below hW) zP1 zP3 hsf
  have hhR : ∀ W, Below w.heap.size w W → Calls Tryz.prog 18 #[R.val, .int .i64 day, E.val] W (TrE (hldT R day E.fs E.cs).1 (hldT R day E.fs E.cs).2 W) := fun W hW => pholds_any R E day W (hR.below hW) (hE.below hW) zR1 zR3 hsf
  have hvX : ∀ W, Below w.heap.size w W → Calls Tryz.prog 17 #[X.val, .int .i64 day, E.val] W (StE (valN X day E.fs E.cs).1 (valN X day E.fs E.cs).2 W) := fun W hW => pvalue_any X E day W (hX.below hW) (hE.below hW) zX1 zX3 hsf
  have hvY : ∀ W, Below w.heap.size w W → Calls Tryz.prog 17 #[Y.val, .int .i64 day, E.val] W (StE (valN Y day E.fs E.cs).1 (valN Y day E.fs E.cs).2 W) := fun W hW => pvalue_any Y E day W (hY.below hW) (hE.below hW) zY1 zY3 hsf
  have hp : ∀ W, Below w.heap.size w W → ∀ k : Int, 13 ≤ k → k ≤ 14 → Calls Tryz.prog 12 #[.int .u8 k, P.val, R.val] W (PairR k P R W) := fun W hW k k0 k1 => pair_any8 k (by omega) (by omega) P R W (hP.below hW) (hR.below hW)
  have hand : ∀ W, Below w.heap.size w W → ∀ bb, (pairT 13 bb P R).In W → Calls Tryz.prog 18 #[(pairT 13 bb P R).val, .int .i64 day, E.val] W (TrE (anR 13 (hldT P day E.fs E.cs) (hldT R day E.fs E.cs)).1 (anR 13 (hldT P day E.fs E.cs) (hldT R day E.fs E.cs)).2 W) := fun W hW bb hT => by
    rw [← hldT_an (by decide) (by decide) bb tP tR (by omega) (by omega) vP vR]
    exact pholds_any _ E day W hT (hE.below hW) (by rw [pairL_siz]; omega) (by unfold pairT; rw [mkL_byt]; simp; omega) hsf
  have hor : ∀ W, Below w.heap.size w W → ∀ bb, (pairT 14 bb P R).In W → Calls Tryz.prog 18 #[(pairT 14 bb P R).val, .int .i64 day, E.val] W (TrE (anR 14 (hldT P day E.fs E.cs) (hldT R day E.fs E.cs)).1 (anR 14 (hldT P day E.fs E.cs) (hldT R day E.fs E.cs)).2 W) := fun W hW bb hT => by
    rw [← hldT_an (by decide) (by decide) bb tP tR (by omega) (by omega) vP vR]
    exact pholds_any _ E day W hT (hE.below hW) (by rw [pairL_siz]; omega) (by unfold pairT; rw [mkL_byt]; simp; omega) hsf
  have hnot : ∀ W, Below w.heap.size w W → ∀ bb, (Ex.mk 15 ⟨#[]⟩ ⟨#[]⟩ 0 (some ⟨bb, 0, none⟩) 1 [P]).In W → Calls Tryz.prog 18 #[.agg #[.int .u8 15, .string ⟨#[]⟩, .string ⟨#[]⟩, .int .i64 0, .slice (some ⟨bb, 0, none⟩) 1 1], .int .i64 day, E.val] W (TrE (ntR (hldT P day E.fs E.cs)).1 (ntR (hldT P day E.fs E.cs)).2 W) := fun W hW bb hT => by
    rw [← hldT_nt (some ⟨bb, 0, none⟩) 1 tP (by omega) vP]
    exact pholds_any (Ex.mk 15 ⟨#[]⟩ ⟨#[]⟩ 0 (some ⟨bb, 0, none⟩) 1 [P]) E day W hT (hE.below hW) (by rw [Ex.siz_mk]; simp; omega) (by rw [mkL_byt]; simp; omega) hsf
  have hwhen : ∀ W, Below w.heap.size w W → ∀ bb, (Ex.mk 9 ⟨#[]⟩ ⟨#[]⟩ 0 (some ⟨bb, 0, none⟩) 3 [P, X, Y]).In W → Calls Tryz.prog 17 #[.agg #[.int .u8 9, .string ⟨#[]⟩, .string ⟨#[]⟩, .int .i64 0, .slice (some ⟨bb, 0, none⟩) 3 3], .int .i64 day, E.val] W (StE (whR (hldT P day E.fs E.cs) (valN X day E.fs E.cs) (valN Y day E.fs E.cs)).1 (whR (hldT P day E.fs E.cs) (valN X day E.fs E.cs) (valN Y day E.fs E.cs)).2 W) := fun W hW bb hT => by
    rw [← valN_wh (some ⟨bb, 0, none⟩) 3 tP nX nY uP uX uY vP vX vY]
    exact pvalue_any (Ex.mk 9 ⟨#[]⟩ ⟨#[]⟩ 0 (some ⟨bb, 0, none⟩) 3 [P, X, Y]) E day W hT (hE.below hW) (by rw [Ex.siz_mk]; simp; omega) (by rw [mkL_byt]; simp; omega) hsf
  have er := hldT_err (t := R) (day := day) (fs := E.fs) (cs := E.cs)
  generalize hldT P day E.fs E.cs = A1 at *
  generalize hldT R day E.fs E.cs = A2 at *
  generalize valN X day E.fs E.cs = A3 at *
  generalize valN Y day E.fs E.cs = A4 at *
  obtain ⟨a, e⟩ := A1
  obtain ⟨b, f⟩ := A2
  obtain ⟨rX, jX⟩ := A3
  obtain ⟨rY, jY⟩ := A4
  have er : f ≠ 0 → b = false := er
  by_cases he : e ≠ 0
  · skip
    have q0 : anR 13 ((a, e) : TR) (b, f) = (false, e) := by first | rfl | (unfold anR; rw [if_pos he]) | (unfold ntR; rw [if_pos he]) | (unfold whR; rw [if_pos he])
    simp only [q0] at hand
    have q1 : anR 14 ((a, e) : TR) (b, f) = (false, e) := by first | rfl | (unfold anR; rw [if_pos he]) | (unfold ntR; rw [if_pos he]) | (unfold whR; rw [if_pos he])
    simp only [q1] at hor
    have q2 : ntR ((a, e) : TR) = (false, e) := by first | rfl | (unfold anR; rw [if_pos he]) | (unfold ntR; rw [if_pos he]) | (unfold whR; rw [if_pos he])
    simp only [q2] at hnot
    have q3 : whR ((a, e) : TR) (rX, jX) (rY, jY) = (⟨#[]⟩, e) := by first | rfl | (unfold anR; rw [if_pos he]) | (unfold ntR; rw [if_pos he]) | (unfold whR; rw [if_pos he])
    simp only [q3] at hwhen
    exact logic_val P R X Y E day _ _ _ _ _ _ _ _ _ _ _ _ _ _ _ _ _ _ _ _ _ _ _ _ w hP hR hX hY hal hgP hsP hdP hgR hsR hdR hgX hsX hdX hgY hsY hdY hgv htP htR hnX hnY hhP hhR hp hand hor hnot hwhen hvX hvY cP eP cR eR cX eX cY eY (.inl (⟨ne_decO he, rfl, rfl, rfl, rfl, rfl, rfl, rfl, rfl⟩))
  obtain rfl : e = 0 := by simpa using he
  clear he
  cases a
  · by_cases hf : f = 0
    · cases b
      · skip
        have q0 : anR 13 ((false, 0) : TR) (false, f) = (false, 0) := by first | rfl | (unfold anR; rw [if_pos he]) | (unfold ntR; rw [if_pos he]) | (unfold whR; rw [if_pos he])
        simp only [q0] at hand
        have q1 : anR 14 ((false, 0) : TR) (false, f) = (false, f) := by first | rfl | (unfold anR; rw [if_pos he]) | (unfold ntR; rw [if_pos he]) | (unfold whR; rw [if_pos he])
        simp only [q1] at hor
        have q2 : ntR ((false, 0) : TR) = (true, 0) := by first | rfl | (unfold anR; rw [if_pos he]) | (unfold ntR; rw [if_pos he]) | (unfold whR; rw [if_pos he])
        simp only [q2] at hnot
        have q3 : whR ((false, 0) : TR) (rX, jX) (rY, jY) = (rY, jY) := by first | rfl | (unfold anR; rw [if_pos he]) | (unfold ntR; rw [if_pos he]) | (unfold whR; rw [if_pos he])
        simp only [q3] at hwhen
        exact logic_val P R X Y E day _ _ _ _ _ _ _ _ _ _ _ _ _ _ _ _ _ _ _ _ _ _ _ _ w hP hR hX hY hal hgP hsP hdP hgR hsR hdR hgX hsX hdX hgY hsY hdY hgv htP htR hnX hnY hhP hhR hp hand hor hnot hwhen hvX hvY cP eP cR eR cX eX cY eY (.inr (.inr (.inr (.inr (.inr (.inl (⟨rfl, rfl, rfl, rfl, rfl, rfl, rfl, rfl, rfl, hf, rfl, rfl⟩)))))))
      · skip
        have q0 : anR 13 ((false, 0) : TR) (true, f) = (false, 0) := by first | rfl | (unfold anR; rw [if_pos he]) | (unfold ntR; rw [if_pos he]) | (unfold whR; rw [if_pos he])
        simp only [q0] at hand
        have q1 : anR 14 ((false, 0) : TR) (true, f) = (true, f) := by first | rfl | (unfold anR; rw [if_pos he]) | (unfold ntR; rw [if_pos he]) | (unfold whR; rw [if_pos he])
        simp only [q1] at hor
        have q2 : ntR ((false, 0) : TR) = (true, 0) := by first | rfl | (unfold anR; rw [if_pos he]) | (unfold ntR; rw [if_pos he]) | (unfold whR; rw [if_pos he])
        simp only [q2] at hnot
        have q3 : whR ((false, 0) : TR) (rX, jX) (rY, jY) = (rY, jY) := by first | rfl | (unfold anR; rw [if_pos he]) | (unfold ntR; rw [if_pos he]) | (unfold whR; rw [if_pos he])
        simp only [q3] at hwhen
        exact logic_val P R X Y E day _ _ _ _ _ _ _ _ _ _ _ _ _ _ _ _ _ _ _ _ _ _ _ _ w hP hR hX hY hal hgP hsP hdP hgR hsR hdR hgX hsX hdX hgY hsY hdY hgv htP htR hnX hnY hhP hhR hp hand hor hnot hwhen hvX hvY cP eP cR eR cX eX cY eY (.inr (.inr (.inr (.inr (.inl (⟨rfl, rfl, rfl, rfl, rfl, rfl, rfl, rfl, rfl, hf, rfl, rfl⟩))))))
    · obtain rfl := er hf
      have q0 : anR 13 ((false, 0) : TR) (false, f) = (false, 0) := by first | rfl | (unfold anR; rw [if_pos he]) | (unfold ntR; rw [if_pos he]) | (unfold whR; rw [if_pos he])
      simp only [q0] at hand
      have q1 : anR 14 ((false, 0) : TR) (false, f) = (false, f) := by first | rfl | (unfold anR; rw [if_pos he]) | (unfold ntR; rw [if_pos he]) | (unfold whR; rw [if_pos he])
      simp only [q1] at hor
      have q2 : ntR ((false, 0) : TR) = (true, 0) := by first | rfl | (unfold anR; rw [if_pos he]) | (unfold ntR; rw [if_pos he]) | (unfold whR; rw [if_pos he])
      simp only [q2] at hnot
      have q3 : whR ((false, 0) : TR) (rX, jX) (rY, jY) = (rY, jY) := by first | rfl | (unfold anR; rw [if_pos he]) | (unfold ntR; rw [if_pos he]) | (unfold whR; rw [if_pos he])
      simp only [q3] at hwhen
      exact logic_val P R X Y E day _ _ _ _ _ _ _ _ _ _ _ _ _ _ _ _ _ _ _ _ _ _ _ _ w hP hR hX hY hal hgP hsP hdP hgR hsR hdR hgX hsX hdX hgY hsY hdY hgv htP htR hnX hnY hhP hhR hp hand hor hnot hwhen hvX hvY cP eP cR eR cX eX cY eY (.inr (.inr (.inr (.inr (.inr (.inr (⟨rfl, rfl, rfl, rfl, rfl, rfl, rfl, rfl, rfl, ne_decO hf, rfl, rfl⟩)))))))
  · by_cases hf : f = 0
    · cases b
      · skip
        have q0 : anR 13 ((true, 0) : TR) (false, f) = (false, f) := by first | rfl | (unfold anR; rw [if_pos he]) | (unfold ntR; rw [if_pos he]) | (unfold whR; rw [if_pos he])
        simp only [q0] at hand
        have q1 : anR 14 ((true, 0) : TR) (false, f) = (true, 0) := by first | rfl | (unfold anR; rw [if_pos he]) | (unfold ntR; rw [if_pos he]) | (unfold whR; rw [if_pos he])
        simp only [q1] at hor
        have q2 : ntR ((true, 0) : TR) = (false, 0) := by first | rfl | (unfold anR; rw [if_pos he]) | (unfold ntR; rw [if_pos he]) | (unfold whR; rw [if_pos he])
        simp only [q2] at hnot
        have q3 : whR ((true, 0) : TR) (rX, jX) (rY, jY) = (rX, jX) := by first | rfl | (unfold anR; rw [if_pos he]) | (unfold ntR; rw [if_pos he]) | (unfold whR; rw [if_pos he])
        simp only [q3] at hwhen
        exact logic_val P R X Y E day _ _ _ _ _ _ _ _ _ _ _ _ _ _ _ _ _ _ _ _ _ _ _ _ w hP hR hX hY hal hgP hsP hdP hgR hsR hdR hgX hsX hdX hgY hsY hdY hgv htP htR hnX hnY hhP hhR hp hand hor hnot hwhen hvX hvY cP eP cR eR cX eX cY eY (.inr (.inr (.inl (⟨rfl, rfl, rfl, rfl, rfl, rfl, rfl, rfl, rfl, hf, rfl, rfl⟩))))
      · skip
        have q0 : anR 13 ((true, 0) : TR) (true, f) = (true, f) := by first | rfl | (unfold anR; rw [if_pos he]) | (unfold ntR; rw [if_pos he]) | (unfold whR; rw [if_pos he])
        simp only [q0] at hand
        have q1 : anR 14 ((true, 0) : TR) (true, f) = (true, 0) := by first | rfl | (unfold anR; rw [if_pos he]) | (unfold ntR; rw [if_pos he]) | (unfold whR; rw [if_pos he])
        simp only [q1] at hor
        have q2 : ntR ((true, 0) : TR) = (false, 0) := by first | rfl | (unfold anR; rw [if_pos he]) | (unfold ntR; rw [if_pos he]) | (unfold whR; rw [if_pos he])
        simp only [q2] at hnot
        have q3 : whR ((true, 0) : TR) (rX, jX) (rY, jY) = (rX, jX) := by first | rfl | (unfold anR; rw [if_pos he]) | (unfold ntR; rw [if_pos he]) | (unfold whR; rw [if_pos he])
        simp only [q3] at hwhen
        exact logic_val P R X Y E day _ _ _ _ _ _ _ _ _ _ _ _ _ _ _ _ _ _ _ _ _ _ _ _ w hP hR hX hY hal hgP hsP hdP hgR hsR hdR hgX hsX hdX hgY hsY hdY hgv htP htR hnX hnY hhP hhR hp hand hor hnot hwhen hvX hvY cP eP cR eR cX eX cY eY (.inr (.inl (⟨rfl, rfl, rfl, rfl, rfl, rfl, rfl, rfl, rfl, hf, rfl, rfl⟩)))
    · obtain rfl := er hf
      have q0 : anR 13 ((true, 0) : TR) (false, f) = (false, f) := by first | rfl | (unfold anR; rw [if_pos he]) | (unfold ntR; rw [if_pos he]) | (unfold whR; rw [if_pos he])
      simp only [q0] at hand
      have q1 : anR 14 ((true, 0) : TR) (false, f) = (true, 0) := by first | rfl | (unfold anR; rw [if_pos he]) | (unfold ntR; rw [if_pos he]) | (unfold whR; rw [if_pos he])
      simp only [q1] at hor
      have q2 : ntR ((true, 0) : TR) = (false, 0) := by first | rfl | (unfold anR; rw [if_pos he]) | (unfold ntR; rw [if_pos he]) | (unfold whR; rw [if_pos he])
      simp only [q2] at hnot
      have q3 : whR ((true, 0) : TR) (rX, jX) (rY, jY) = (rX, jX) := by first | rfl | (unfold anR; rw [if_pos he]) | (unfold ntR; rw [if_pos he]) | (unfold whR; rw [if_pos he])
      simp only [q3] at hwhen
      exact logic_val P R X Y E day _ _ _ _ _ _ _ _ _ _ _ _ _ _ _ _ _ _ _ _ _ _ _ _ w hP hR hX hY hal hgP hsP hdP hgR hsR hdR hgX hsX hdX hgY hsY hdY hgv htP htR hnX hnY hhP hhR hp hand hor hnot hwhen hvX hvY cP eP cR eR cX eX cY eY (.inr (.inr (.inr (.inl (⟨rfl, rfl, rfl, rfl, rfl, rfl, rfl, rfl, rfl, ne_decO hf, rfl, rfl⟩)))))
end
end Go.Proofs.YtnomccgdajcfiaaGreatDoor
/- The law ObservableParts: the walks. -/
namespace Go.Proofs.YtnomccgdajcfiaaGreatDoor
open Go Go.RowKit Go.BigFrame
theorem bne_beq0 {e : Int} (h : (e != 0) = true) : (e == 0) = false := beq_eq_false_iff_ne.2 (bne_iff_ne.1 h)
structure PaG (Q : Nat) (X Y : Ex) (E : Ev) (W : World) : Prop where
  x0 : W.cell? ⟨Q, 0, none⟩ = some (.int .u8 X.k)
  x1 : W.cell? ⟨Q, 1, none⟩ = some (.string X.r)
  x2 : W.cell? ⟨Q, 2, none⟩ = some (.string X.n)
  x3 : W.cell? ⟨Q, 3, none⟩ = some (.int .i64 X.d)
  x4 : W.cell? ⟨Q, 4, none⟩ = some (.slice X.A X.sub.length X.c)
  y0 : W.cell? ⟨Q + 1, 0, none⟩ = some (.int .u8 Y.k)
  y1 : W.cell? ⟨Q + 1, 1, none⟩ = some (.string Y.r)
  y2 : W.cell? ⟨Q + 1, 2, none⟩ = some (.string Y.n)
  y3 : W.cell? ⟨Q + 1, 3, none⟩ = some (.int .i64 Y.d)
  y4 : W.cell? ⟨Q + 1, 4, none⟩ = some (.slice Y.A Y.sub.length Y.c)
  v0 : W.cell? ⟨Q + 1 + 1, 0, none⟩ = some (.slice E.fA E.fs.length E.fc)
  v1 : W.cell? ⟨Q + 1 + 1, 1, none⟩ = some (.slice E.cA E.cs.length E.cc)
theorem PaG.below {Q : Nat} {X Y : Ex} {E : Ev} {W W' : World} (h : PaG Q X Y E W) (hb : Below W.heap.size W W') : PaG Q X Y E W' := ⟨cellO hb h.x0, cellO hb h.x1, cellO hb h.x2, cellO hb h.x3, cellO hb h.x4, cellO hb h.y0, cellO hb h.y1, cellO hb h.y2, cellO hb h.y3, cellO hb h.y4, cellO hb h.v0, cellO hb h.v1⟩
theorem pa_begin (w : World) (X Y : Ex) (E : Ev) : ∃ w1, ((w.alloc (.cells #[.int .u8 X.k, .string X.r, .string X.n, .int .i64 X.d, .slice X.A X.sub.length X.c] 26)).alloc (.cells #[.int .u8 Y.k, .string Y.r, .string Y.n, .int .i64 Y.d, .slice Y.A Y.sub.length Y.c] 26)).alloc (.cells #[.slice E.fA E.fs.length E.fc, .slice E.cA E.cs.length E.cc] 38) = w1 ∧ Below w.heap.size w w1 ∧ PaG w.heap.size X Y E w1 := by
  have r1 := heap_alloc_new w (.cells #[.int .u8 X.k, .string X.r, .string X.n, .int .i64 X.d, .slice X.A X.sub.length X.c] 26)
  have b1 := belO (w.alloc (.cells #[.int .u8 X.k, .string X.r, .string X.n, .int .i64 X.d, .slice X.A X.sub.length X.c] 26)) (.cells #[.int .u8 Y.k, .string Y.r, .string Y.n, .int .i64 Y.d, .slice Y.A Y.sub.length Y.c] 26)
  have r2 := heap_alloc_new (w.alloc (.cells #[.int .u8 X.k, .string X.r, .string X.n, .int .i64 X.d, .slice X.A X.sub.length X.c] 26)) (.cells #[.int .u8 Y.k, .string Y.r, .string Y.n, .int .i64 Y.d, .slice Y.A Y.sub.length Y.c] 26)
  have b2 := belO ((w.alloc (.cells #[.int .u8 X.k, .string X.r, .string X.n, .int .i64 X.d, .slice X.A X.sub.length X.c] 26)).alloc (.cells #[.int .u8 Y.k, .string Y.r, .string Y.n, .int .i64 Y.d, .slice Y.A Y.sub.length Y.c] 26)) (.cells #[.slice E.fA E.fs.length E.fc, .slice E.cA E.cs.length E.cc] 38)
  have r3 := heap_alloc_new ((w.alloc (.cells #[.int .u8 X.k, .string X.r, .string X.n, .int .i64 X.d, .slice X.A X.sub.length X.c] 26)).alloc (.cells #[.int .u8 Y.k, .string Y.r, .string Y.n, .int .i64 Y.d, .slice Y.A Y.sub.length Y.c] 26)) (.cells #[.slice E.fA E.fs.length E.fc, .slice E.cA E.cs.length E.cc] 38)
  rw [World.size_alloc] at r2
  rw [World.size_alloc, World.size_alloc] at r3
  have c1 := btO b1 b2
  exact ⟨_, rfl, btO (belO w _) c1, ⟨cellO c1 (row_cell (j := 0) r1 rfl), cellO c1 (row_cell (j := 1) r1 rfl), cellO c1 (row_cell (j := 2) r1 rfl), cellO c1 (row_cell (j := 3) r1 rfl), cellO c1 (row_cell (j := 4) r1 rfl), cellO b2 (row_cell (j := 0) r2 rfl), cellO b2 (row_cell (j := 1) r2 rfl), cellO b2 (row_cell (j := 2) r2 rfl), cellO b2 (row_cell (j := 3) r2 rfl), cellO b2 (row_cell (j := 4) r2 rfl), row_cell (j := 0) r3 rfl, row_cell (j := 1) r3 rfl⟩⟩
set_option maxRecDepth 100000 in
set_option maxHeartbeats 25600000 in
theorem parts_out (ok1 ok : Prop) (X Y : Ex) (E : Ev) (day : Int) (bx by_ bv nx ny : Bool) (sx sy dx dy e f : Int) (a b : ByteArray) (w : World)
    (hal : ∀ W, Below w.heap.size w W → Calls Tryz.prog 23 #[] W (BoolRO true W))
    (hgx : ∀ W, Below w.heap.size w W → Calls Tryz.prog 34 #[.agg #[.int .u8 X.k, .string X.r, .string X.n, .int .i64 X.d, .slice X.A X.sub.length X.c]] W (BoolRO bx W))
    (hgy : ∀ W, Below w.heap.size w W → Calls Tryz.prog 34 #[.agg #[.int .u8 Y.k, .string Y.r, .string Y.n, .int .i64 Y.d, .slice Y.A Y.sub.length Y.c]] W (BoolRO by_ W))
    (hgv : ∀ W, Below w.heap.size w W → Calls Tryz.prog 24 #[.agg #[.slice E.fA E.fs.length E.fc, .slice E.cA E.cs.length E.cc]] W (BoolRO bv W))
    (hsx : ok1 → ∀ W, Below w.heap.size w W → Calls Tryz.prog 37 #[.agg #[.int .u8 X.k, .string X.r, .string X.n, .int .i64 X.d, .slice X.A X.sub.length X.c]] W (IntRO sx W))
    (hsy : ok1 → ∀ W, Below w.heap.size w W → Calls Tryz.prog 37 #[.agg #[.int .u8 Y.k, .string Y.r, .string Y.n, .int .i64 Y.d, .slice Y.A Y.sub.length Y.c]] W (IntRO sy W))
    (hdx : ok1 → ∀ W, Below w.heap.size w W → Calls Tryz.prog 38 #[.agg #[.int .u8 X.k, .string X.r, .string X.n, .int .i64 X.d, .slice X.A X.sub.length X.c]] W (IntRO dx W))
    (hdy : ok1 → ∀ W, Below w.heap.size w W → Calls Tryz.prog 38 #[.agg #[.int .u8 Y.k, .string Y.r, .string Y.n, .int .i64 Y.d, .slice Y.A Y.sub.length Y.c]] W (IntRO dy W))
    (hvx : ok → ∀ W, Below w.heap.size w W → Calls Tryz.prog 17 #[.agg #[.int .u8 X.k, .string X.r, .string X.n, .int .i64 X.d, .slice X.A X.sub.length X.c], .int .i64 day, .agg #[.slice E.fA E.fs.length E.fc, .slice E.cA E.cs.length E.cc]] W (StE a e W))
    (hvy : ok → ∀ W, Below w.heap.size w W → Calls Tryz.prog 17 #[.agg #[.int .u8 Y.k, .string Y.r, .string Y.n, .int .i64 Y.d, .slice Y.A Y.sub.length Y.c], .int .i64 day, .agg #[.slice E.fA E.fs.length E.fc, .slice E.cA E.cs.length E.cc]] W (StE b f W))
    (hnx : ok → ∀ W, Below w.heap.size w W → Calls Tryz.prog 14 #[.agg #[.int .u8 X.k, .string X.r, .string X.n, .int .i64 X.d, .slice X.A X.sub.length X.c]] W (BoolRO nx W))
    (hny : ok → ∀ W, Below w.heap.size w W → Calls Tryz.prog 14 #[.agg #[.int .u8 Y.k, .string Y.r, .string Y.n, .int .i64 Y.d, .slice Y.A Y.sub.length Y.c]] W (BoolRO ny W))
    (key : (bx = true ∧ True) ∨ (bx = false ∧ by_ = true) ∨ (bx = false ∧ by_ = false ∧ bv = true) ∨ (ok1 ∧ bx = false ∧ by_ = false ∧ bv = false ∧ 200 < sx) ∨ (ok1 ∧ bx = false ∧ by_ = false ∧ bv = false ∧ ¬ 200 < sx ∧ 200 < sy) ∨ (ok1 ∧ bx = false ∧ by_ = false ∧ bv = false ∧ ¬ 200 < sx ∧ ¬ 200 < sy ∧ 59 < dx) ∨ (ok1 ∧ bx = false ∧ by_ = false ∧ bv = false ∧ ¬ 200 < sx ∧ ¬ 200 < sy ∧ ¬ 59 < dx ∧ 59 < dy) ∨ (ok1 ∧ ok ∧ bx = false ∧ by_ = false ∧ bv = false ∧ ¬ 200 < sx ∧ ¬ 200 < sy ∧ ¬ 59 < dx ∧ ¬ 59 < dy ∧ (e != 0) = true ∧ nx = false) ∨ (ok1 ∧ ok ∧ bx = false ∧ by_ = false ∧ bv = false ∧ ¬ 200 < sx ∧ ¬ 200 < sy ∧ ¬ 59 < dx ∧ ¬ 59 < dy ∧ (e != 0) = true ∧ nx = true ∧ ny = false) ∨ (ok1 ∧ ok ∧ bx = false ∧ by_ = false ∧ bv = false ∧ ¬ 200 < sx ∧ ¬ 200 < sy ∧ ¬ 59 < dx ∧ ¬ 59 < dy ∧ e = 0 ∧ (f != 0) = true ∧ nx = true ∧ ny = false)) :
    Calls Tryz.prog 6 #[.agg #[.int .u8 X.k, .string X.r, .string X.n, .int .i64 X.d, .slice X.A X.sub.length X.c], .agg #[.int .u8 Y.k, .string Y.r, .string Y.n, .int .i64 Y.d, .slice Y.A Y.sub.length Y.c], .int .i64 day, .agg #[.slice E.fA E.fs.length E.fc, .slice E.cA E.cs.length E.cc]] w (BoolRO true w) := by
  obtain ⟨w1, hw1, hB, hS⟩ := pa_begin w X Y E
  have HB := Lib.hid hB
  have HG := Lib.hid (fun W (hW : Below w1.heap.size w1 W) => hS.below hW)
  have Hal := Lib.hid (fun W (hW : Below w1.heap.size w1 W) => hal W (btO hB hW))
  have Hgx := Lib.hid (fun W (hW : Below w1.heap.size w1 W) => hgx W (btO hB hW))
  have Hgy := Lib.hid (fun W (hW : Below w1.heap.size w1 W) => hgy W (btO hB hW))
  have Hgv := Lib.hid (fun W (hW : Below w1.heap.size w1 W) => hgv W (btO hB hW))
  have Hsx := Lib.hid (fun (o : ok1) W (hW : Below w1.heap.size w1 W) => hsx o W (btO hB hW))
  have Hsy := Lib.hid (fun (o : ok1) W (hW : Below w1.heap.size w1 W) => hsy o W (btO hB hW))
  have Hdx := Lib.hid (fun (o : ok1) W (hW : Below w1.heap.size w1 W) => hdx o W (btO hB hW))
  have Hdy := Lib.hid (fun (o : ok1) W (hW : Below w1.heap.size w1 W) => hdy o W (btO hB hW))
  have Hvx := Lib.hid (fun (o : ok) W (hW : Below w1.heap.size w1 W) => hvx o W (btO hB hW))
  have Hvy := Lib.hid (fun (o : ok) W (hW : Below w1.heap.size w1 W) => hvy o W (btO hB hW))
  have Hnx := Lib.hid (fun (o : ok) W (hW : Below w1.heap.size w1 W) => hnx o W (btO hB hW))
  have Hny := Lib.hid (fun (o : ok) W (hW : Below w1.heap.size w1 W) => hny o W (btO hB hW))
  have HW1 := Lib.hid (Below.refl w1.heap.size w1)
  clear hB hS hal hgx hgy hgv hsx hsy hdx hdy hvx hvy hnx hny
  obtain ⟨x0, x1, x2, x3, x4, y0, y1, y2, y3, y4, v0, v1⟩ := HG.out _ HW1.out
  rcases key with ⟨rfl, -⟩ | ⟨rfl, rfl⟩ | ⟨rfl, rfl, rfl⟩ | ⟨ok1h, rfl, rfl, rfl, q9⟩ | ⟨ok1h, rfl, rfl, rfl, q0, q9⟩ | ⟨ok1h, rfl, rfl, rfl, q0, q1, q9⟩ | ⟨ok1h, rfl, rfl, rfl, q0, q1, q2, q9⟩ | ⟨ok1h, okh, rfl, rfl, rfl, q0, q1, q2, q3, q4, rfl⟩ | ⟨ok1h, okh, rfl, rfl, rfl, q0, q1, q2, q3, q4, rfl, rfl⟩ | ⟨ok1h, okh, rfl, rfl, rfl, q0, q1, q2, q3, rfl, q4, rfl, rfl⟩
  all_goals (
    go_enter Tryz.func6, Tryz.ntmps6
    go_wp2_with (first
      | (go_at_call 14; have _t := HW12; ((with_reducible refine (Hny.out okh _ HW12.out).mono ?_); rintro u w13 ⟨rfl, hb⟩; clear x0 x1 x2 x3 x4 y0 y1 y2 y3 y4 v0 v1; have HW13 := Lib.hid (btO HW12.out hb); obtain ⟨x0, x1, x2, x3, x4, y0, y1, y2, y3, y4, v0, v1⟩ := HG.out _ HW13.out; clear hb))
      | (go_at_call 14; have _t := HW11; ((with_reducible refine (Hnx.out okh _ HW11.out).mono ?_); rintro u w12 ⟨rfl, hb⟩; clear x0 x1 x2 x3 x4 y0 y1 y2 y3 y4 v0 v1; have HW12 := Lib.hid (btO HW11.out hb); obtain ⟨x0, x1, x2, x3, x4, y0, y1, y2, y3, y4, v0, v1⟩ := HG.out _ HW12.out; clear hb))
      | (go_at_call 17; have _t := HW10; ((with_reducible refine (Hvy.out okh _ HW10.out).mono ?_); rintro u w11 ⟨rfl, hb⟩; clear x0 x1 x2 x3 x4 y0 y1 y2 y3 y4 v0 v1; have HW11 := Lib.hid (btO HW10.out hb); obtain ⟨x0, x1, x2, x3, x4, y0, y1, y2, y3, y4, v0, v1⟩ := HG.out _ HW11.out; clear hb))
      | (go_at_call 17; have _t := HW9; ((with_reducible refine (Hvx.out okh _ HW9.out).mono ?_); rintro u w10 ⟨rfl, hb⟩; clear x0 x1 x2 x3 x4 y0 y1 y2 y3 y4 v0 v1; have HW10 := Lib.hid (btO HW9.out hb); obtain ⟨x0, x1, x2, x3, x4, y0, y1, y2, y3, y4, v0, v1⟩ := HG.out _ HW10.out; clear hb))
      | (go_at_call 38; have _t := HW8; ((with_reducible refine (Hdy.out ok1h _ HW8.out).mono ?_); rintro u w9 ⟨rfl, hb⟩; clear x0 x1 x2 x3 x4 y0 y1 y2 y3 y4 v0 v1; have HW9 := Lib.hid (btO HW8.out hb); obtain ⟨x0, x1, x2, x3, x4, y0, y1, y2, y3, y4, v0, v1⟩ := HG.out _ HW9.out; clear hb))
      | (go_at_call 38; have _t := HW7; ((with_reducible refine (Hdx.out ok1h _ HW7.out).mono ?_); rintro u w8 ⟨rfl, hb⟩; clear x0 x1 x2 x3 x4 y0 y1 y2 y3 y4 v0 v1; have HW8 := Lib.hid (btO HW7.out hb); obtain ⟨x0, x1, x2, x3, x4, y0, y1, y2, y3, y4, v0, v1⟩ := HG.out _ HW8.out; clear hb))
      | (go_at_call 37; have _t := HW6; ((with_reducible refine (Hsy.out ok1h _ HW6.out).mono ?_); rintro u w7 ⟨rfl, hb⟩; clear x0 x1 x2 x3 x4 y0 y1 y2 y3 y4 v0 v1; have HW7 := Lib.hid (btO HW6.out hb); obtain ⟨x0, x1, x2, x3, x4, y0, y1, y2, y3, y4, v0, v1⟩ := HG.out _ HW7.out; clear hb))
      | (go_at_call 37; have _t := HW5; ((with_reducible refine (Hsx.out ok1h _ HW5.out).mono ?_); rintro u w6 ⟨rfl, hb⟩; clear x0 x1 x2 x3 x4 y0 y1 y2 y3 y4 v0 v1; have HW6 := Lib.hid (btO HW5.out hb); obtain ⟨x0, x1, x2, x3, x4, y0, y1, y2, y3, y4, v0, v1⟩ := HG.out _ HW6.out; clear hb))
      | (go_at_call 24; have _t := HW4; ((with_reducible refine (Hgv.out _ HW4.out).mono ?_); rintro u w5 ⟨rfl, hb⟩; clear x0 x1 x2 x3 x4 y0 y1 y2 y3 y4 v0 v1; have HW5 := Lib.hid (btO HW4.out hb); obtain ⟨x0, x1, x2, x3, x4, y0, y1, y2, y3, y4, v0, v1⟩ := HG.out _ HW5.out; clear hb))
      | (go_at_call 34; have _t := HW3; ((with_reducible refine (Hgy.out _ HW3.out).mono ?_); rintro u w4 ⟨rfl, hb⟩; clear x0 x1 x2 x3 x4 y0 y1 y2 y3 y4 v0 v1; have HW4 := Lib.hid (btO HW3.out hb); obtain ⟨x0, x1, x2, x3, x4, y0, y1, y2, y3, y4, v0, v1⟩ := HG.out _ HW4.out; clear hb))
      | (go_at_call 34; have _t := HW2; ((with_reducible refine (Hgx.out _ HW2.out).mono ?_); rintro u w3 ⟨rfl, hb⟩; clear x0 x1 x2 x3 x4 y0 y1 y2 y3 y4 v0 v1; have HW3 := Lib.hid (btO HW2.out hb); obtain ⟨x0, x1, x2, x3, x4, y0, y1, y2, y3, y4, v0, v1⟩ := HG.out _ HW3.out; clear hb))
      | (go_at_call 23; have _t := HW1; ((with_reducible refine (Hal.out _ HW1.out).mono ?_); rintro u w2 ⟨rfl, hb⟩; clear x0 x1 x2 x3 x4 y0 y1 y2 y3 y4 v0 v1; have HW2 := Lib.hid (btO HW1.out hb); obtain ⟨x0, x1, x2, x3, x4, y0, y1, y2, y3, y4, v0, v1⟩ := HG.out _ HW2.out; clear hb)))
    all_goals go_ret
    all_goals exact ⟨rfl, btO HB.out (by first | exact HW13.out | exact HW12.out | exact HW11.out | exact HW10.out | exact HW9.out | exact HW8.out | exact HW7.out | exact HW6.out | exact HW5.out | exact HW4.out | exact HW3.out | exact HW2.out)⟩)
set_option maxRecDepth 100000 in
set_option maxHeartbeats 25600000 in
theorem parts_err (X Y : Ex) (E : Ev) (day : Int) (sx sy dx dy e f : Int) (a b : ByteArray) (g1 : Int) (w : World)
    (hal : ∀ W, Below w.heap.size w W → Calls Tryz.prog 23 #[] W (BoolRO true W))
    (hgx : ∀ W, Below w.heap.size w W → Calls Tryz.prog 34 #[.agg #[.int .u8 X.k, .string X.r, .string X.n, .int .i64 X.d, .slice X.A X.sub.length X.c]] W (BoolRO false W))
    (hgy : ∀ W, Below w.heap.size w W → Calls Tryz.prog 34 #[.agg #[.int .u8 Y.k, .string Y.r, .string Y.n, .int .i64 Y.d, .slice Y.A Y.sub.length Y.c]] W (BoolRO false W))
    (hgv : ∀ W, Below w.heap.size w W → Calls Tryz.prog 24 #[.agg #[.slice E.fA E.fs.length E.fc, .slice E.cA E.cs.length E.cc]] W (BoolRO false W))
    (hsx : True → ∀ W, Below w.heap.size w W → Calls Tryz.prog 37 #[.agg #[.int .u8 X.k, .string X.r, .string X.n, .int .i64 X.d, .slice X.A X.sub.length X.c]] W (IntRO sx W))
    (hsy : True → ∀ W, Below w.heap.size w W → Calls Tryz.prog 37 #[.agg #[.int .u8 Y.k, .string Y.r, .string Y.n, .int .i64 Y.d, .slice Y.A Y.sub.length Y.c]] W (IntRO sy W))
    (hdx : True → ∀ W, Below w.heap.size w W → Calls Tryz.prog 38 #[.agg #[.int .u8 X.k, .string X.r, .string X.n, .int .i64 X.d, .slice X.A X.sub.length X.c]] W (IntRO dx W))
    (hdy : True → ∀ W, Below w.heap.size w W → Calls Tryz.prog 38 #[.agg #[.int .u8 Y.k, .string Y.r, .string Y.n, .int .i64 Y.d, .slice Y.A Y.sub.length Y.c]] W (IntRO dy W))
    (hvx : True → ∀ W, Below w.heap.size w W → Calls Tryz.prog 17 #[.agg #[.int .u8 X.k, .string X.r, .string X.n, .int .i64 X.d, .slice X.A X.sub.length X.c], .int .i64 day, .agg #[.slice E.fA E.fs.length E.fc, .slice E.cA E.cs.length E.cc]] W (StE a e W))
    (hvy : True → ∀ W, Below w.heap.size w W → Calls Tryz.prog 17 #[.agg #[.int .u8 Y.k, .string Y.r, .string Y.n, .int .i64 Y.d, .slice Y.A Y.sub.length Y.c], .int .i64 day, .agg #[.slice E.fA E.fs.length E.fc, .slice E.cA E.cs.length E.cc]] W (StE b f W))
    (hnx : True → ∀ W, Below w.heap.size w W → Calls Tryz.prog 14 #[.agg #[.int .u8 X.k, .string X.r, .string X.n, .int .i64 X.d, .slice X.A X.sub.length X.c]] W (BoolRO true W))
    (hny : True → ∀ W, Below w.heap.size w W → Calls Tryz.prog 14 #[.agg #[.int .u8 Y.k, .string Y.r, .string Y.n, .int .i64 Y.d, .slice Y.A Y.sub.length Y.c]] W (BoolRO true W))
    (hp : ∀ W, Below w.heap.size w W → ∀ k : Int, 4 ≤ k → k ≤ 12 → Calls Tryz.prog 12 #[.int .u8 k, X.val, Y.val] W (PairR k X Y W))
    (hv : ∀ k : Int, 4 ≤ k → k ≤ 8 → ∀ W bb, Below w.heap.size w W → (pairT k bb X Y).In W → Calls Tryz.prog 17 #[(pairT k bb X Y).val, .int .i64 day, .agg #[.slice E.fA E.fs.length E.fc, .slice E.cA E.cs.length E.cc]] W (StE ⟨#[]⟩ g1 W))
    (hl : ∀ k : Int, 11 ≤ k → k ≤ 12 → ∀ W bb, Below w.heap.size w W → (pairT k bb X Y).In W → Calls Tryz.prog 18 #[(pairT k bb X Y).val, .int .i64 day, .agg #[.slice E.fA E.fs.length E.fc, .slice E.cA E.cs.length E.cc]] W (TrE false g1 W))
    (q0 : ¬ 200 < sx) (q1 : ¬ 200 < sy) (q2 : ¬ 59 < dx) (q3 : ¬ 59 < dy)
    (key : ((e != 0) = true ∧ e = g1) ∨ (e = 0 ∧ (f != 0) = true ∧ f = g1)) :
    Calls Tryz.prog 6 #[.agg #[.int .u8 X.k, .string X.r, .string X.n, .int .i64 X.d, .slice X.A X.sub.length X.c], .agg #[.int .u8 Y.k, .string Y.r, .string Y.n, .int .i64 Y.d, .slice Y.A Y.sub.length Y.c], .int .i64 day, .agg #[.slice E.fA E.fs.length E.fc, .slice E.cA E.cs.length E.cc]] w (BoolRO true w) := by
  obtain ⟨w1, hw1, hB, hS⟩ := pa_begin w X Y E
  have HB := Lib.hid hB
  have HG := Lib.hid (fun W (hW : Below w1.heap.size w1 W) => hS.below hW)
  have Hal := Lib.hid (fun W (hW : Below w1.heap.size w1 W) => hal W (btO hB hW))
  have Hgx := Lib.hid (fun W (hW : Below w1.heap.size w1 W) => hgx W (btO hB hW))
  have Hgy := Lib.hid (fun W (hW : Below w1.heap.size w1 W) => hgy W (btO hB hW))
  have Hgv := Lib.hid (fun W (hW : Below w1.heap.size w1 W) => hgv W (btO hB hW))
  have Hsx := Lib.hid (fun (o : True) W (hW : Below w1.heap.size w1 W) => hsx o W (btO hB hW))
  have Hsy := Lib.hid (fun (o : True) W (hW : Below w1.heap.size w1 W) => hsy o W (btO hB hW))
  have Hdx := Lib.hid (fun (o : True) W (hW : Below w1.heap.size w1 W) => hdx o W (btO hB hW))
  have Hdy := Lib.hid (fun (o : True) W (hW : Below w1.heap.size w1 W) => hdy o W (btO hB hW))
  have Hvx := Lib.hid (fun (o : True) W (hW : Below w1.heap.size w1 W) => hvx o W (btO hB hW))
  have Hvy := Lib.hid (fun (o : True) W (hW : Below w1.heap.size w1 W) => hvy o W (btO hB hW))
  have Hnx := Lib.hid (fun (o : True) W (hW : Below w1.heap.size w1 W) => hnx o W (btO hB hW))
  have Hny := Lib.hid (fun (o : True) W (hW : Below w1.heap.size w1 W) => hny o W (btO hB hW))
  have Hp := Lib.hid (fun W (hW : Below w1.heap.size w1 W) => hp W (btO hB hW))
  have Hv := Lib.hid (fun k h0 h1 W bb (hW : Below w1.heap.size w1 W) => hv k h0 h1 W bb (btO hB hW))
  have Hl := Lib.hid (fun k h0 h1 W bb (hW : Below w1.heap.size w1 W) => hl k h0 h1 W bb (btO hB hW))
  clear hp hv hl
  have HW1 := Lib.hid (Below.refl w1.heap.size w1)
  clear hB hS hal hgx hgy hgv hsx hsy hdx hdy hvx hvy hnx hny
  obtain ⟨x0, x1, x2, x3, x4, y0, y1, y2, y3, y4, v0, v1⟩ := HG.out _ HW1.out
  rcases key with ⟨q4, rfl⟩ | ⟨rfl, q4, rfl⟩
  all_goals (
    have q5 := bne_beq0 q4
    go_enter Tryz.func6, Tryz.ntmps6
    go_wp2_with (first
      | (go_at_call 14; have _t := HW12; ((with_reducible refine (Hny.out trivial _ HW12.out).mono ?_); rintro u w13 ⟨rfl, hb⟩; clear x0 x1 x2 x3 x4 y0 y1 y2 y3 y4 v0 v1; have HW13 := Lib.hid (btO HW12.out hb); obtain ⟨x0, x1, x2, x3, x4, y0, y1, y2, y3, y4, v0, v1⟩ := HG.out _ HW13.out; clear hb))
      | (go_at_call 14; have _t := HW11; ((with_reducible refine (Hnx.out trivial _ HW11.out).mono ?_); rintro u w12 ⟨rfl, hb⟩; clear x0 x1 x2 x3 x4 y0 y1 y2 y3 y4 v0 v1; have HW12 := Lib.hid (btO HW11.out hb); obtain ⟨x0, x1, x2, x3, x4, y0, y1, y2, y3, y4, v0, v1⟩ := HG.out _ HW12.out; clear hb))
      | (go_at_call 17; have _t := HW10; ((with_reducible refine (Hvy.out trivial _ HW10.out).mono ?_); rintro u w11 ⟨rfl, hb⟩; clear x0 x1 x2 x3 x4 y0 y1 y2 y3 y4 v0 v1; have HW11 := Lib.hid (btO HW10.out hb); obtain ⟨x0, x1, x2, x3, x4, y0, y1, y2, y3, y4, v0, v1⟩ := HG.out _ HW11.out; clear hb))
      | (go_at_call 17; have _t := HW9; ((with_reducible refine (Hvx.out trivial _ HW9.out).mono ?_); rintro u w10 ⟨rfl, hb⟩; clear x0 x1 x2 x3 x4 y0 y1 y2 y3 y4 v0 v1; have HW10 := Lib.hid (btO HW9.out hb); obtain ⟨x0, x1, x2, x3, x4, y0, y1, y2, y3, y4, v0, v1⟩ := HG.out _ HW10.out; clear hb))
      | (go_at_call 38; have _t := HW8; ((with_reducible refine (Hdy.out trivial _ HW8.out).mono ?_); rintro u w9 ⟨rfl, hb⟩; clear x0 x1 x2 x3 x4 y0 y1 y2 y3 y4 v0 v1; have HW9 := Lib.hid (btO HW8.out hb); obtain ⟨x0, x1, x2, x3, x4, y0, y1, y2, y3, y4, v0, v1⟩ := HG.out _ HW9.out; clear hb))
      | (go_at_call 38; have _t := HW7; ((with_reducible refine (Hdx.out trivial _ HW7.out).mono ?_); rintro u w8 ⟨rfl, hb⟩; clear x0 x1 x2 x3 x4 y0 y1 y2 y3 y4 v0 v1; have HW8 := Lib.hid (btO HW7.out hb); obtain ⟨x0, x1, x2, x3, x4, y0, y1, y2, y3, y4, v0, v1⟩ := HG.out _ HW8.out; clear hb))
      | (go_at_call 37; have _t := HW6; ((with_reducible refine (Hsy.out trivial _ HW6.out).mono ?_); rintro u w7 ⟨rfl, hb⟩; clear x0 x1 x2 x3 x4 y0 y1 y2 y3 y4 v0 v1; have HW7 := Lib.hid (btO HW6.out hb); obtain ⟨x0, x1, x2, x3, x4, y0, y1, y2, y3, y4, v0, v1⟩ := HG.out _ HW7.out; clear hb))
      | (go_at_call 37; have _t := HW5; ((with_reducible refine (Hsx.out trivial _ HW5.out).mono ?_); rintro u w6 ⟨rfl, hb⟩; clear x0 x1 x2 x3 x4 y0 y1 y2 y3 y4 v0 v1; have HW6 := Lib.hid (btO HW5.out hb); obtain ⟨x0, x1, x2, x3, x4, y0, y1, y2, y3, y4, v0, v1⟩ := HG.out _ HW6.out; clear hb))
      | (go_at_call 24; have _t := HW4; ((with_reducible refine (Hgv.out _ HW4.out).mono ?_); rintro u w5 ⟨rfl, hb⟩; clear x0 x1 x2 x3 x4 y0 y1 y2 y3 y4 v0 v1; have HW5 := Lib.hid (btO HW4.out hb); obtain ⟨x0, x1, x2, x3, x4, y0, y1, y2, y3, y4, v0, v1⟩ := HG.out _ HW5.out; clear hb))
      | (go_at_call 34; have _t := HW3; ((with_reducible refine (Hgy.out _ HW3.out).mono ?_); rintro u w4 ⟨rfl, hb⟩; clear x0 x1 x2 x3 x4 y0 y1 y2 y3 y4 v0 v1; have HW4 := Lib.hid (btO HW3.out hb); obtain ⟨x0, x1, x2, x3, x4, y0, y1, y2, y3, y4, v0, v1⟩ := HG.out _ HW4.out; clear hb))
      | (go_at_call 34; have _t := HW2; ((with_reducible refine (Hgx.out _ HW2.out).mono ?_); rintro u w3 ⟨rfl, hb⟩; clear x0 x1 x2 x3 x4 y0 y1 y2 y3 y4 v0 v1; have HW3 := Lib.hid (btO HW2.out hb); obtain ⟨x0, x1, x2, x3, x4, y0, y1, y2, y3, y4, v0, v1⟩ := HG.out _ HW3.out; clear hb))
      | (go_at_call 23; have _t := HW1; ((with_reducible refine (Hal.out _ HW1.out).mono ?_); rintro u w2 ⟨rfl, hb⟩; clear x0 x1 x2 x3 x4 y0 y1 y2 y3 y4 v0 v1; have HW2 := Lib.hid (btO HW1.out hb); obtain ⟨x0, x1, x2, x3, x4, y0, y1, y2, y3, y4, v0, v1⟩ := HG.out _ HW2.out; clear hb)))
    clear q0 q1 q2 q3 x0 x1 x2 x3 x4 y0 y1 y2 y3 y4 v0 v1
    go_loopw [15] (fun i wr => ∃ (k : Int), 4 ≤ k ∧ k ≤ 9 ∧ i = .int .u8 k ∧ Hid (Below w1.heap.size w1 wr)) (fun i _ => 9 - (intOf i).toNat)
    case atStart => exact ⟨4, by omega, by omega, rfl, HW13.out⟩
    case round =>
      obtain ⟨k, hk0, hk, rfl, HW⟩ := hrel
      obtain ⟨x0, x1, x2, x3, x4, y0, y1, y2, y3, y4, v0, v1⟩ := HG.out _ HW.out
      by_cases hlt : k < 9
      · have k8 : k ≤ 8 := by omega
        have kw : IntKind.u8.wrap (k + 1) = k + 1 := by rw [IntKind.wrap_u8]; omega
        go_wp2_with (fail)
        have BR20 := (Below.drew HW.out)
        go_region_held3 (fun w' => w'.cell? ⟨w.heap.size, 0, none⟩ = some (.int .u8 X.k) ∧ w'.cell? ⟨w.heap.size, 1, none⟩ = some (.string X.r) ∧ w'.cell? ⟨w.heap.size, 2, none⟩ = some (.string X.n) ∧ w'.cell? ⟨w.heap.size, 3, none⟩ = some (.int .i64 X.d) ∧ w'.cell? ⟨w.heap.size, 4, none⟩ = some (.slice X.A X.sub.length X.c) ∧ w'.cell? ⟨w.heap.size + 1, 0, none⟩ = some (.int .u8 Y.k) ∧ w'.cell? ⟨w.heap.size + 1, 1, none⟩ = some (.string Y.r) ∧ w'.cell? ⟨w.heap.size + 1, 2, none⟩ = some (.string Y.n) ∧ w'.cell? ⟨w.heap.size + 1, 3, none⟩ = some (.int .i64 Y.d) ∧ w'.cell? ⟨w.heap.size + 1, 4, none⟩ = some (.slice Y.A Y.sub.length Y.c) ∧ w'.cell? ⟨w.heap.size + 1 + 1, 0, none⟩ = some (.slice E.fA E.fs.length E.fc) ∧ w'.cell? ⟨w.heap.size + 1 + 1, 1, none⟩ = some (.slice E.cA E.cs.length E.cc))
          (((try go_split_ands); (and_intros) <;> first | assumption | (go_keep; done)))
          (first
            | (go_split_ands; go_at_call 12; refine (Hp.out _ BR20 _ hk0 (by omega)).mono ?_; rintro u w20 ⟨bb20, rfl, hi, hb⟩; have B20 := btO BR20 hb; obtain ⟨i20_x0, i20_x1, i20_x2, i20_x3, i20_x4, i20_y0, i20_y1, i20_y2, i20_y3, i20_y4, i20_v0, i20_v1⟩ := HG.out _ B20; have HT20 := Lib.hid hi; have HV20 := Lib.hid (fun W hW hT => Hv.out k hk0 k8 W bb20 hW hT); clear hi hb; generalize pairT k bb20 X Y = T20 at *)
            | (go_split_ands; go_at_call 17; refine (HV20.out _ B20 HT20.out).mono ?_; rintro u w21 ⟨rfl, hb⟩; have B21 := btO B20 hb; obtain ⟨j20_x0, j20_x1, j20_x2, j20_x3, j20_x4, j20_y0, j20_y1, j20_y2, j20_y3, j20_y4, j20_v0, j20_v1⟩ := HG.out _ B21; clear hb))
        all_goals (
          go_wp2_with (fail)
          go_roundw
          · exact ⟨k + 1, by omega, by omega, rfl, Lib.hid B21⟩
          · show 9 - (k + 1).toNat < 9 - k.toNat
            omega)
      · obtain rfl : k = 9 := by omega
        go_wp2_with (fail)
        have BR30 := (Below.drew HW.out)
        go_region_held3 (fun w' => w'.cell? ⟨w.heap.size, 0, none⟩ = some (.int .u8 X.k) ∧ w'.cell? ⟨w.heap.size, 1, none⟩ = some (.string X.r) ∧ w'.cell? ⟨w.heap.size, 2, none⟩ = some (.string X.n) ∧ w'.cell? ⟨w.heap.size, 3, none⟩ = some (.int .i64 X.d) ∧ w'.cell? ⟨w.heap.size, 4, none⟩ = some (.slice X.A X.sub.length X.c) ∧ w'.cell? ⟨w.heap.size + 1, 0, none⟩ = some (.int .u8 Y.k) ∧ w'.cell? ⟨w.heap.size + 1, 1, none⟩ = some (.string Y.r) ∧ w'.cell? ⟨w.heap.size + 1, 2, none⟩ = some (.string Y.n) ∧ w'.cell? ⟨w.heap.size + 1, 3, none⟩ = some (.int .i64 Y.d) ∧ w'.cell? ⟨w.heap.size + 1, 4, none⟩ = some (.slice Y.A Y.sub.length Y.c) ∧ w'.cell? ⟨w.heap.size + 1 + 1, 0, none⟩ = some (.slice E.fA E.fs.length E.fc) ∧ w'.cell? ⟨w.heap.size + 1 + 1, 1, none⟩ = some (.slice E.cA E.cs.length E.cc))
          (((try go_split_ands); (and_intros) <;> first | assumption | (go_keep; done)))
          (first
            | (go_split_ands; go_at_call 12; refine (Hp.out _ BR30 11 (by decide) (by decide)).mono ?_; rintro u w30 ⟨bb30, rfl, hi, hb⟩; have B30 := btO BR30 hb; obtain ⟨i30_x0, i30_x1, i30_x2, i30_x3, i30_x4, i30_y0, i30_y1, i30_y2, i30_y3, i30_y4, i30_v0, i30_v1⟩ := HG.out _ B30; have HT30 := Lib.hid hi; have HV30 := Lib.hid (fun W hW hT => Hl.out 11 (by decide) (by decide) W bb30 hW hT); clear hi hb; generalize pairT 11 bb30 X Y = T30 at *)
            | (go_split_ands; go_at_call 18; refine (HV30.out _ B30 HT30.out).mono ?_; rintro u w31 ⟨rfl, hb⟩; have B31 := btO B30 hb; obtain ⟨j30_x0, j30_x1, j30_x2, j30_x3, j30_x4, j30_y0, j30_y1, j30_y2, j30_y3, j30_y4, j30_v0, j30_v1⟩ := HG.out _ B31; clear hb))
        all_goals go_wp2_with (fail)
        all_goals (
          have BR40 := (Below.drew B31)
          go_region_held3 (fun w' => w'.cell? ⟨w.heap.size, 0, none⟩ = some (.int .u8 X.k) ∧ w'.cell? ⟨w.heap.size, 1, none⟩ = some (.string X.r) ∧ w'.cell? ⟨w.heap.size, 2, none⟩ = some (.string X.n) ∧ w'.cell? ⟨w.heap.size, 3, none⟩ = some (.int .i64 X.d) ∧ w'.cell? ⟨w.heap.size, 4, none⟩ = some (.slice X.A X.sub.length X.c) ∧ w'.cell? ⟨w.heap.size + 1, 0, none⟩ = some (.int .u8 Y.k) ∧ w'.cell? ⟨w.heap.size + 1, 1, none⟩ = some (.string Y.r) ∧ w'.cell? ⟨w.heap.size + 1, 2, none⟩ = some (.string Y.n) ∧ w'.cell? ⟨w.heap.size + 1, 3, none⟩ = some (.int .i64 Y.d) ∧ w'.cell? ⟨w.heap.size + 1, 4, none⟩ = some (.slice Y.A Y.sub.length Y.c) ∧ w'.cell? ⟨w.heap.size + 1 + 1, 0, none⟩ = some (.slice E.fA E.fs.length E.fc) ∧ w'.cell? ⟨w.heap.size + 1 + 1, 1, none⟩ = some (.slice E.cA E.cs.length E.cc))
            (((try go_split_ands); (and_intros) <;> first | assumption | (go_keep; done)))
            (first
              | (go_split_ands; go_at_call 12; refine (Hp.out _ BR40 12 (by decide) (by decide)).mono ?_; rintro u w40 ⟨bb40, rfl, hi, hb⟩; have B40 := btO BR40 hb; obtain ⟨i40_x0, i40_x1, i40_x2, i40_x3, i40_x4, i40_y0, i40_y1, i40_y2, i40_y3, i40_y4, i40_v0, i40_v1⟩ := HG.out _ B40; have HT40 := Lib.hid hi; have HV40 := Lib.hid (fun W hW hT => Hl.out 12 (by decide) (by decide) W bb40 hW hT); clear hi hb; generalize pairT 12 bb40 X Y = T40 at *)
              | (go_split_ands; go_at_call 18; refine (HV40.out _ B40 HT40.out).mono ?_; rintro u w41 ⟨rfl, hb⟩; have B41 := btO B40 hb; obtain ⟨j40_x0, j40_x1, j40_x2, j40_x3, j40_x4, j40_y0, j40_y1, j40_y2, j40_y3, j40_y4, j40_v0, j40_v1⟩ := HG.out _ B41; clear hb))
          all_goals go_wp2_with (fail)
          all_goals go_ret
          all_goals exact ⟨rfl, btO HB.out B41⟩)
    )
end Go.Proofs.YtnomccgdajcfiaaGreatDoor

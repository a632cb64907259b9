/- Joined: OeL4b, OeL5, OeL8, OeL9. -/
import Derived.Test.YtnomccgdajcfiaaGreatDoorPk31
import Derived.Test.YtnomccgdajcfiaaGreatDoorPk23
import Derived.Test.YtnomccgdajcfiaaGreatDoorPk30
import Derived.Deep.RegionHeld3
/- The law ObservableParts: two numbers that have values. -/
namespace Go.Proofs.YtnomccgdajcfiaaGreatDoor
open Go Go.RowKit Go.BigFrame
set_option maxRecDepth 100000 in
set_option maxHeartbeats 25600000 in
theorem parts_ok (X Y : Ex) (E : Ev) (day : Int) (sx sy dx dy : Int) (a b : ByteArray) (c4 : ByteArray) (g4 : Int) (c5 : ByteArray) (g5 : Int) (c6 : ByteArray) (g6 : Int) (c7 c8 : ByteArray) (K i : Int) (l1 l2 : Bool) (w : World)
    (hal : ∀ W, Below w.heap.size w W → Calls Tryz.prog 23 #[] W (BoolRO true W))
    (hgx : ∀ W, Below w.heap.size w W → Calls Tryz.prog 34 #[.agg #[.int .u8 X.k, .string X.r, .string X.n, .int .i64 X.d, .slice X.A X.sub.length X.c]] W (BoolRO false W))
    (hgy : ∀ W, Below w.heap.size w W → Calls Tryz.prog 34 #[.agg #[.int .u8 Y.k, .string Y.r, .string Y.n, .int .i64 Y.d, .slice Y.A Y.sub.length Y.c]] W (BoolRO false W))
    (hgv : ∀ W, Below w.heap.size w W → Calls Tryz.prog 24 #[.agg #[.slice E.fA E.fs.length E.fc, .slice E.cA E.cs.length E.cc]] W (BoolRO false W))
    (hsx : True → ∀ W, Below w.heap.size w W → Calls Tryz.prog 37 #[.agg #[.int .u8 X.k, .string X.r, .string X.n, .int .i64 X.d, .slice X.A X.sub.length X.c]] W (IntRO sx W))
    (hsy : True → ∀ W, Below w.heap.size w W → Calls Tryz.prog 37 #[.agg #[.int .u8 Y.k, .string Y.r, .string Y.n, .int .i64 Y.d, .slice Y.A Y.sub.length Y.c]] W (IntRO sy W))
    (hdx : True → ∀ W, Below w.heap.size w W → Calls Tryz.prog 38 #[.agg #[.int .u8 X.k, .string X.r, .string X.n, .int .i64 X.d, .slice X.A X.sub.length X.c]] W (IntRO dx W))
    (hdy : True → ∀ W, Below w.heap.size w W → Calls Tryz.prog 38 #[.agg #[.int .u8 Y.k, .string Y.r, .string Y.n, .int .i64 Y.d, .slice Y.A Y.sub.length Y.c]] W (IntRO dy W))
    (hvx : True → ∀ W, Below w.heap.size w W → Calls Tryz.prog 17 #[.agg #[.int .u8 X.k, .string X.r, .string X.n, .int .i64 X.d, .slice X.A X.sub.length X.c], .int .i64 day, .agg #[.slice E.fA E.fs.length E.fc, .slice E.cA E.cs.length E.cc]] W (StE a 0 W))
    (hvy : True → ∀ W, Below w.heap.size w W → Calls Tryz.prog 17 #[.agg #[.int .u8 Y.k, .string Y.r, .string Y.n, .int .i64 Y.d, .slice Y.A Y.sub.length Y.c], .int .i64 day, .agg #[.slice E.fA E.fs.length E.fc, .slice E.cA E.cs.length E.cc]] W (StE b 0 W))
    (hnx : True → ∀ W, Below w.heap.size w W → Calls Tryz.prog 14 #[.agg #[.int .u8 X.k, .string X.r, .string X.n, .int .i64 X.d, .slice X.A X.sub.length X.c]] W (BoolRO true W))
    (hny : True → ∀ W, Below w.heap.size w W → Calls Tryz.prog 14 #[.agg #[.int .u8 Y.k, .string Y.r, .string Y.n, .int .i64 Y.d, .slice Y.A Y.sub.length Y.c]] W (BoolRO true W))
    (hp : ∀ W, Below w.heap.size w W → ∀ k : Int, 4 ≤ k → k ≤ 12 → Calls Tryz.prog 12 #[.int .u8 k, X.val, Y.val] W (PairR k X Y W))
    (hv4 : ∀ W, Below w.heap.size w W → ∀ bb, (pairT 4 bb X Y).In W → Calls Tryz.prog 17 #[(pairT 4 bb X Y).val, .int .i64 day, .agg #[.slice E.fA E.fs.length E.fc, .slice E.cA E.cs.length E.cc]] W (StE c4 g4 W))
    (hv5 : ∀ W, Below w.heap.size w W → ∀ bb, (pairT 5 bb X Y).In W → Calls Tryz.prog 17 #[(pairT 5 bb X Y).val, .int .i64 day, .agg #[.slice E.fA E.fs.length E.fc, .slice E.cA E.cs.length E.cc]] W (StE c5 g5 W))
    (hv6 : ∀ W, Below w.heap.size w W → ∀ bb, (pairT 6 bb X Y).In W → Calls Tryz.prog 17 #[(pairT 6 bb X Y).val, .int .i64 day, .agg #[.slice E.fA E.fs.length E.fc, .slice E.cA E.cs.length E.cc]] W (StE c6 g6 W))
    (hv7 : ∀ W, Below w.heap.size w W → ∀ bb, (pairT 7 bb X Y).In W → Calls Tryz.prog 17 #[(pairT 7 bb X Y).val, .int .i64 day, .agg #[.slice E.fA E.fs.length E.fc, .slice E.cA E.cs.length E.cc]] W (StE c7 i W))
    (hv8 : ∀ W, Below w.heap.size w W → ∀ bb, (pairT 8 bb X Y).In W → Calls Tryz.prog 17 #[(pairT 8 bb X Y).val, .int .i64 day, .agg #[.slice E.fA E.fs.length E.fc, .slice E.cA E.cs.length E.cc]] W (StE c8 i W))
    (hl1 : ∀ W, Below w.heap.size w W → ∀ bb, (pairT 11 bb X Y).In W → Calls Tryz.prog 18 #[(pairT 11 bb X Y).val, .int .i64 day, .agg #[.slice E.fA E.fs.length E.fc, .slice E.cA E.cs.length E.cc]] W (TrE l1 i W))
    (hl2 : ∀ W, Below w.heap.size w W → ∀ bb, (pairT 12 bb X Y).In W → Calls Tryz.prog 18 #[(pairT 12 bb X Y).val, .int .i64 day, .agg #[.slice E.fA E.fs.length E.fc, .slice E.cA E.cs.length E.cc]] W (TrE l2 i W))
    (hadd : ∀ W, Below w.heap.size w W → Calls Tryz.prog 40 #[.string a, .string b] W (StE c4 g4 W))
    (hsub : ∀ W, Below w.heap.size w W → Calls Tryz.prog 41 #[.string a, .string b] W (StE c5 g5 W))
    (hmul : ∀ W, Below w.heap.size w W → Calls Tryz.prog 42 #[.string a, .string b] W (StE c6 g6 W))
    (hcm : ∀ W, Below w.heap.size w W → Calls Tryz.prog 39 #[.string a, .string b] W (CmE K i W))
    (q0 : ¬ 200 < sx) (q1 : ¬ 200 < sy) (q2 : ¬ 59 < dx) (q3 : ¬ 59 < dy)
    (k4 : g4 = 0 ∨ ((g4 != 0) = true ∧ c4 = ⟨#[]⟩)) (k5 : g5 = 0 ∨ ((g5 != 0) = true ∧ c5 = ⟨#[]⟩)) (k6 : g6 = 0 ∨ ((g6 != 0) = true ∧ c6 = ⟨#[]⟩))
    (k7 : (i = 0 ∧ decide (K < 0) = true ∧ c7 = b) ∨ (i = 0 ∧ decide (K < 0) = false ∧ c7 = a) ∨ ((i != 0) = true ∧ decide (K < 0) = true ∧ c7 = ⟨#[]⟩) ∨ ((i != 0) = true ∧ decide (K < 0) = false ∧ c7 = ⟨#[]⟩)) (k8 : (i = 0 ∧ decide (0 < K) = true ∧ c8 = b) ∨ (i = 0 ∧ decide (0 < K) = false ∧ c8 = a) ∨ ((i != 0) = true ∧ decide (0 < K) = true ∧ c8 = ⟨#[]⟩) ∨ ((i != 0) = true ∧ decide (0 < K) = false ∧ c8 = ⟨#[]⟩))
    (kf : ((i != 0) = true ∧ l1 = false ∧ l2 = false) ∨ (i = 0 ∧ decide (K < 0) = true ∧ (K == 0) = false ∧ l1 = true ∧ l2 = false) ∨ (i = 0 ∧ K = 0 ∧ l1 = false ∧ l2 = true) ∨ (i = 0 ∧ decide (K < 0) = false ∧ (K == 0) = false ∧ l1 = false ∧ l2 = false)) :
    Calls Tryz.prog 6 #[.agg #[.int .u8 X.k, .string X.r, .string X.n, .int .i64 X.d, .slice X.A X.sub.length X.c], .agg #[.int .u8 Y.k, .string Y.r, .string Y.n, .int .i64 Y.d, .slice Y.A Y.sub.length Y.c], .int .i64 day, .agg #[.slice E.fA E.fs.length E.fc, .slice E.cA E.cs.length E.cc]] w (BoolRO true w) := by
  obtain ⟨w1, hw1, hB, hS⟩ := pa_begin w X Y E
  have HB := Lib.hid hB
  have HG := Lib.hid (fun W (hW : Below w1.heap.size w1 W) => hS.below hW)
  have Hal := Lib.hid (fun W (hW : Below w1.heap.size w1 W) => hal W (btO hB hW))
  have Hgx := Lib.hid (fun W (hW : Below w1.heap.size w1 W) => hgx W (btO hB hW))
  have Hgy := Lib.hid (fun W (hW : Below w1.heap.size w1 W) => hgy W (btO hB hW))
  have Hgv := Lib.hid (fun W (hW : Below w1.heap.size w1 W) => hgv W (btO hB hW))
  have Hsx := Lib.hid (fun (o : True) W (hW : Below w1.heap.size w1 W) => hsx o W (btO hB hW))
  have Hsy := Lib.hid (fun (o : True) W (hW : Below w1.heap.size w1 W) => hsy o W (btO hB hW))
  have Hdx := Lib.hid (fun (o : True) W (hW : Below w1.heap.size w1 W) => hdx o W (btO hB hW))
  have Hdy := Lib.hid (fun (o : True) W (hW : Below w1.heap.size w1 W) => hdy o W (btO hB hW))
  have Hvx := Lib.hid (fun (o : True) W (hW : Below w1.heap.size w1 W) => hvx o W (btO hB hW))
  have Hvy := Lib.hid (fun (o : True) W (hW : Below w1.heap.size w1 W) => hvy o W (btO hB hW))
  have Hnx := Lib.hid (fun (o : True) W (hW : Below w1.heap.size w1 W) => hnx o W (btO hB hW))
  have Hny := Lib.hid (fun (o : True) W (hW : Below w1.heap.size w1 W) => hny o W (btO hB hW))
  have Hp := Lib.hid (fun W (hW : Below w1.heap.size w1 W) => hp W (btO hB hW))
  have Hv4 := Lib.hid (fun W (hW : Below w1.heap.size w1 W) => hv4 W (btO hB hW))
  have Hv5 := Lib.hid (fun W (hW : Below w1.heap.size w1 W) => hv5 W (btO hB hW))
  have Hv6 := Lib.hid (fun W (hW : Below w1.heap.size w1 W) => hv6 W (btO hB hW))
  have Hv7 := Lib.hid (fun W (hW : Below w1.heap.size w1 W) => hv7 W (btO hB hW))
  have Hv8 := Lib.hid (fun W (hW : Below w1.heap.size w1 W) => hv8 W (btO hB hW))
  have Hl1 := Lib.hid (fun W (hW : Below w1.heap.size w1 W) => hl1 W (btO hB hW))
  have Hl2 := Lib.hid (fun W (hW : Below w1.heap.size w1 W) => hl2 W (btO hB hW))
  have Hadd := Lib.hid (fun W (hW : Below w1.heap.size w1 W) => hadd W (btO hB hW))
  have Hsub := Lib.hid (fun W (hW : Below w1.heap.size w1 W) => hsub W (btO hB hW))
  have Hmul := Lib.hid (fun W (hW : Below w1.heap.size w1 W) => hmul W (btO hB hW))
  have Hcm := Lib.hid (fun W (hW : Below w1.heap.size w1 W) => hcm W (btO hB hW))
  clear hp hv4 hv5 hv6 hv7 hv8 hl1 hl2 hadd hsub hmul hcm
  have HW1 := Lib.hid (Below.refl w1.heap.size w1)
  clear hB hS hal hgx hgy hgv hsx hsy hdx hdy hvx hvy hnx hny
  obtain ⟨x0, x1, x2, x3, x4, y0, y1, y2, y3, y4, v0, v1⟩ := HG.out _ HW1.out
  have Hk4 := Lib.hid k4
  have Hk5 := Lib.hid k5
  have Hk6 := Lib.hid k6
  have Hk7 := Lib.hid k7
  have Hk8 := Lib.hid k8
  have Hkf := Lib.hid kf
  clear k4 k5 k6 k7 k8 kf
  go_enter Tryz.func6, Tryz.ntmps6
  go_wp2_with (first
      | (go_at_call 14; have _t := HW12; ((with_reducible refine (Hny.out trivial _ HW12.out).mono ?_); rintro u w13 ⟨rfl, hb⟩; clear x0 x1 x2 x3 x4 y0 y1 y2 y3 y4 v0 v1; have HW13 := Lib.hid (btO HW12.out hb); obtain ⟨x0, x1, x2, x3, x4, y0, y1, y2, y3, y4, v0, v1⟩ := HG.out _ HW13.out; clear hb))
      | (go_at_call 14; have _t := HW11; ((with_reducible refine (Hnx.out trivial _ HW11.out).mono ?_); rintro u w12 ⟨rfl, hb⟩; clear x0 x1 x2 x3 x4 y0 y1 y2 y3 y4 v0 v1; have HW12 := Lib.hid (btO HW11.out hb); obtain ⟨x0, x1, x2, x3, x4, y0, y1, y2, y3, y4, v0, v1⟩ := HG.out _ HW12.out; clear hb))
      | (go_at_call 17; have _t := HW10; ((with_reducible refine (Hvy.out trivial _ HW10.out).mono ?_); rintro u w11 ⟨rfl, hb⟩; clear x0 x1 x2 x3 x4 y0 y1 y2 y3 y4 v0 v1; have HW11 := Lib.hid (btO HW10.out hb); obtain ⟨x0, x1, x2, x3, x4, y0, y1, y2, y3, y4, v0, v1⟩ := HG.out _ HW11.out; clear hb))
      | (go_at_call 17; have _t := HW9; ((with_reducible refine (Hvx.out trivial _ HW9.out).mono ?_); rintro u w10 ⟨rfl, hb⟩; clear x0 x1 x2 x3 x4 y0 y1 y2 y3 y4 v0 v1; have HW10 := Lib.hid (btO HW9.out hb); obtain ⟨x0, x1, x2, x3, x4, y0, y1, y2, y3, y4, v0, v1⟩ := HG.out _ HW10.out; clear hb))
      | (go_at_call 38; have _t := HW8; ((with_reducible refine (Hdy.out trivial _ HW8.out).mono ?_); rintro u w9 ⟨rfl, hb⟩; clear x0 x1 x2 x3 x4 y0 y1 y2 y3 y4 v0 v1; have HW9 := Lib.hid (btO HW8.out hb); obtain ⟨x0, x1, x2, x3, x4, y0, y1, y2, y3, y4, v0, v1⟩ := HG.out _ HW9.out; clear hb))
      | (go_at_call 38; have _t := HW7; ((with_reducible refine (Hdx.out trivial _ HW7.out).mono ?_); rintro u w8 ⟨rfl, hb⟩; clear x0 x1 x2 x3 x4 y0 y1 y2 y3 y4 v0 v1; have HW8 := Lib.hid (btO HW7.out hb); obtain ⟨x0, x1, x2, x3, x4, y0, y1, y2, y3, y4, v0, v1⟩ := HG.out _ HW8.out; clear hb))
      | (go_at_call 37; have _t := HW6; ((with_reducible refine (Hsy.out trivial _ HW6.out).mono ?_); rintro u w7 ⟨rfl, hb⟩; clear x0 x1 x2 x3 x4 y0 y1 y2 y3 y4 v0 v1; have HW7 := Lib.hid (btO HW6.out hb); obtain ⟨x0, x1, x2, x3, x4, y0, y1, y2, y3, y4, v0, v1⟩ := HG.out _ HW7.out; clear hb))
      | (go_at_call 37; have _t := HW5; ((with_reducible refine (Hsx.out trivial _ HW5.out).mono ?_); rintro u w6 ⟨rfl, hb⟩; clear x0 x1 x2 x3 x4 y0 y1 y2 y3 y4 v0 v1; have HW6 := Lib.hid (btO HW5.out hb); obtain ⟨x0, x1, x2, x3, x4, y0, y1, y2, y3, y4, v0, v1⟩ := HG.out _ HW6.out; clear hb))
      | (go_at_call 24; have _t := HW4; ((with_reducible refine (Hgv.out _ HW4.out).mono ?_); rintro u w5 ⟨rfl, hb⟩; clear x0 x1 x2 x3 x4 y0 y1 y2 y3 y4 v0 v1; have HW5 := Lib.hid (btO HW4.out hb); obtain ⟨x0, x1, x2, x3, x4, y0, y1, y2, y3, y4, v0, v1⟩ := HG.out _ HW5.out; clear hb))
      | (go_at_call 34; have _t := HW3; ((with_reducible refine (Hgy.out _ HW3.out).mono ?_); rintro u w4 ⟨rfl, hb⟩; clear x0 x1 x2 x3 x4 y0 y1 y2 y3 y4 v0 v1; have HW4 := Lib.hid (btO HW3.out hb); obtain ⟨x0, x1, x2, x3, x4, y0, y1, y2, y3, y4, v0, v1⟩ := HG.out _ HW4.out; clear hb))
      | (go_at_call 34; have _t := HW2; ((with_reducible refine (Hgx.out _ HW2.out).mono ?_); rintro u w3 ⟨rfl, hb⟩; clear x0 x1 x2 x3 x4 y0 y1 y2 y3 y4 v0 v1; have HW3 := Lib.hid (btO HW2.out hb); obtain ⟨x0, x1, x2, x3, x4, y0, y1, y2, y3, y4, v0, v1⟩ := HG.out _ HW3.out; clear hb))
      | (go_at_call 23; have _t := HW1; ((with_reducible refine (Hal.out _ HW1.out).mono ?_); rintro u w2 ⟨rfl, hb⟩; clear x0 x1 x2 x3 x4 y0 y1 y2 y3 y4 v0 v1; have HW2 := Lib.hid (btO HW1.out hb); obtain ⟨x0, x1, x2, x3, x4, y0, y1, y2, y3, y4, v0, v1⟩ := HG.out _ HW2.out; clear hb)))
  clear q0 q1 q2 q3 x0 x1 x2 x3 x4 y0 y1 y2 y3 y4 v0 v1
  go_loopw [15] (fun i wr => ∃ (k : Int), 4 ≤ k ∧ k ≤ 9 ∧ i = .int .u8 k ∧ Hid (Below w1.heap.size w1 wr)) (fun i _ => 9 - (intOf i).toNat)
  case atStart => exact ⟨4, by omega, by omega, rfl, HW13.out⟩
  case round =>
    obtain ⟨k, hk0, hk, rfl, HW⟩ := hrel
    obtain ⟨x0, x1, x2, x3, x4, y0, y1, y2, y3, y4, v0, v1⟩ := HG.out _ HW.out
    by_cases hlt : k < 9
    · have hk5 : k = 4 ∨ k = 5 ∨ k = 6 ∨ k = 7 ∨ k = 8 := by omega
      clear hk0 hk hlt
      rcases hk5 with rfl | rfl | rfl | rfl | rfl
      · as_aux_lemma =>
        rcases Hk4.out with rfl | ⟨hg, rfl⟩
        all_goals (
          clear Hk4 Hk5 Hk6 Hk7 Hk8 Hkf
          go_wp2_with (fail)
          have BR20 := (Below.drew HW.out)
          go_region_held3 (fun w' => w'.cell? ⟨w.heap.size, 0, none⟩ = some (.int .u8 X.k) ∧ w'.cell? ⟨w.heap.size, 1, none⟩ = some (.string X.r) ∧ w'.cell? ⟨w.heap.size, 2, none⟩ = some (.string X.n) ∧ w'.cell? ⟨w.heap.size, 3, none⟩ = some (.int .i64 X.d) ∧ w'.cell? ⟨w.heap.size, 4, none⟩ = some (.slice X.A X.sub.length X.c) ∧ w'.cell? ⟨w.heap.size + 1, 0, none⟩ = some (.int .u8 Y.k) ∧ w'.cell? ⟨w.heap.size + 1, 1, none⟩ = some (.string Y.r) ∧ w'.cell? ⟨w.heap.size + 1, 2, none⟩ = some (.string Y.n) ∧ w'.cell? ⟨w.heap.size + 1, 3, none⟩ = some (.int .i64 Y.d) ∧ w'.cell? ⟨w.heap.size + 1, 4, none⟩ = some (.slice Y.A Y.sub.length Y.c) ∧ w'.cell? ⟨w.heap.size + 1 + 1, 0, none⟩ = some (.slice E.fA E.fs.length E.fc) ∧ w'.cell? ⟨w.heap.size + 1 + 1, 1, none⟩ = some (.slice E.cA E.cs.length E.cc))
            (((try go_split_ands); (and_intros) <;> first | assumption | (go_keep; done)))
            (first
              | (go_split_ands; go_at_call 12; refine (Hp.out _ BR20 4 (by decide) (by decide)).mono ?_; rintro u w20 ⟨bb20, rfl, hi, hb⟩; have B20 := btO BR20 hb; obtain ⟨i20_x0, i20_x1, i20_x2, i20_x3, i20_x4, i20_y0, i20_y1, i20_y2, i20_y3, i20_y4, i20_v0, i20_v1⟩ := HG.out _ B20; have HT20 := Lib.hid hi; have HV20 := Lib.hid (fun W hW hT => Hv4.out W hW bb20 hT); clear hi hb; generalize pairT 4 bb20 X Y = T20 at *)
              | (go_split_ands; go_at_call 17; refine (HV20.out _ B20 HT20.out).mono ?_; rintro u w21 ⟨rfl, hb⟩; have B21 := btO B20 hb; obtain ⟨j20_x0, j20_x1, j20_x2, j20_x3, j20_x4, j20_y0, j20_y1, j20_y2, j20_y3, j20_y4, j20_v0, j20_v1⟩ := HG.out _ B21; clear hb))
          all_goals (
            go_wp2_with (first | (go_at_call 39; have _t := B21; ((with_reducible refine (Hcm.out _ B21).mono ?_); rintro u w22 ⟨rfl, hb⟩; have B22 := btO B21 hb; clear hb)) | (go_at_call 40; have _t := B22; ((with_reducible refine (Hadd.out _ B22).mono ?_); rintro u w23 ⟨rfl, hb⟩; have B23 := btO B22 hb; clear hb)))
            go_roundw
            all_goals first
              | exact ⟨5, by decide, by decide, rfl, Lib.hid B23⟩
              | exact ⟨⟨5, by decide, by decide, rfl, Lib.hid B23⟩, by decide⟩
              | decide))
      · as_aux_lemma =>
        rcases Hk5.out with rfl | ⟨hg, rfl⟩
        all_goals (
          clear Hk4 Hk5 Hk6 Hk7 Hk8 Hkf
          go_wp2_with (fail)
          have BR20 := (Below.drew HW.out)
          go_region_held3 (fun w' => w'.cell? ⟨w.heap.size, 0, none⟩ = some (.int .u8 X.k) ∧ w'.cell? ⟨w.heap.size, 1, none⟩ = some (.string X.r) ∧ w'.cell? ⟨w.heap.size, 2, none⟩ = some (.string X.n) ∧ w'.cell? ⟨w.heap.size, 3, none⟩ = some (.int .i64 X.d) ∧ w'.cell? ⟨w.heap.size, 4, none⟩ = some (.slice X.A X.sub.length X.c) ∧ w'.cell? ⟨w.heap.size + 1, 0, none⟩ = some (.int .u8 Y.k) ∧ w'.cell? ⟨w.heap.size + 1, 1, none⟩ = some (.string Y.r) ∧ w'.cell? ⟨w.heap.size + 1, 2, none⟩ = some (.string Y.n) ∧ w'.cell? ⟨w.heap.size + 1, 3, none⟩ = some (.int .i64 Y.d) ∧ w'.cell? ⟨w.heap.size + 1, 4, none⟩ = some (.slice Y.A Y.sub.length Y.c) ∧ w'.cell? ⟨w.heap.size + 1 + 1, 0, none⟩ = some (.slice E.fA E.fs.length E.fc) ∧ w'.cell? ⟨w.heap.size + 1 + 1, 1, none⟩ = some (.slice E.cA E.cs.length E.cc))
            (((try go_split_ands); (and_intros) <;> first | assumption | (go_keep; done)))
            (first
              | (go_split_ands; go_at_call 12; refine (Hp.out _ BR20 5 (by decide) (by decide)).mono ?_; rintro u w20 ⟨bb20, rfl, hi, hb⟩; have B20 := btO BR20 hb; obtain ⟨i20_x0, i20_x1, i20_x2, i20_x3, i20_x4, i20_y0, i20_y1, i20_y2, i20_y3, i20_y4, i20_v0, i20_v1⟩ := HG.out _ B20; have HT20 := Lib.hid hi; have HV20 := Lib.hid (fun W hW hT => Hv5.out W hW bb20 hT); clear hi hb; generalize pairT 5 bb20 X Y = T20 at *)
              | (go_split_ands; go_at_call 17; refine (HV20.out _ B20 HT20.out).mono ?_; rintro u w21 ⟨rfl, hb⟩; have B21 := btO B20 hb; obtain ⟨j20_x0, j20_x1, j20_x2, j20_x3, j20_x4, j20_y0, j20_y1, j20_y2, j20_y3, j20_y4, j20_v0, j20_v1⟩ := HG.out _ B21; clear hb))
          all_goals (
            go_wp2_with (first | (go_at_call 39; have _t := B21; ((with_reducible refine (Hcm.out _ B21).mono ?_); rintro u w22 ⟨rfl, hb⟩; have B22 := btO B21 hb; clear hb)) | (go_at_call 41; have _t := B22; ((with_reducible refine (Hsub.out _ B22).mono ?_); rintro u w23 ⟨rfl, hb⟩; have B23 := btO B22 hb; clear hb)))
            go_roundw
            all_goals first
              | exact ⟨6, by decide, by decide, rfl, Lib.hid B23⟩
              | exact ⟨⟨6, by decide, by decide, rfl, Lib.hid B23⟩, by decide⟩
              | decide))
      · as_aux_lemma =>
        rcases Hk6.out with rfl | ⟨hg, rfl⟩
        all_goals (
          clear Hk4 Hk5 Hk6 Hk7 Hk8 Hkf
          go_wp2_with (fail)
          have BR20 := (Below.drew HW.out)
          go_region_held3 (fun w' => w'.cell? ⟨w.heap.size, 0, none⟩ = some (.int .u8 X.k) ∧ w'.cell? ⟨w.heap.size, 1, none⟩ = some (.string X.r) ∧ w'.cell? ⟨w.heap.size, 2, none⟩ = some (.string X.n) ∧ w'.cell? ⟨w.heap.size, 3, none⟩ = some (.int .i64 X.d) ∧ w'.cell? ⟨w.heap.size, 4, none⟩ = some (.slice X.A X.sub.length X.c) ∧ w'.cell? ⟨w.heap.size + 1, 0, none⟩ = some (.int .u8 Y.k) ∧ w'.cell? ⟨w.heap.size + 1, 1, none⟩ = some (.string Y.r) ∧ w'.cell? ⟨w.heap.size + 1, 2, none⟩ = some (.string Y.n) ∧ w'.cell? ⟨w.heap.size + 1, 3, none⟩ = some (.int .i64 Y.d) ∧ w'.cell? ⟨w.heap.size + 1, 4, none⟩ = some (.slice Y.A Y.sub.length Y.c) ∧ w'.cell? ⟨w.heap.size + 1 + 1, 0, none⟩ = some (.slice E.fA E.fs.length E.fc) ∧ w'.cell? ⟨w.heap.size + 1 + 1, 1, none⟩ = some (.slice E.cA E.cs.length E.cc))
            (((try go_split_ands); (and_intros) <;> first | assumption | (go_keep; done)))
            (first
              | (go_split_ands; go_at_call 12; refine (Hp.out _ BR20 6 (by decide) (by decide)).mono ?_; rintro u w20 ⟨bb20, rfl, hi, hb⟩; have B20 := btO BR20 hb; obtain ⟨i20_x0, i20_x1, i20_x2, i20_x3, i20_x4, i20_y0, i20_y1, i20_y2, i20_y3, i20_y4, i20_v0, i20_v1⟩ := HG.out _ B20; have HT20 := Lib.hid hi; have HV20 := Lib.hid (fun W hW hT => Hv6.out W hW bb20 hT); clear hi hb; generalize pairT 6 bb20 X Y = T20 at *)
              | (go_split_ands; go_at_call 17; refine (HV20.out _ B20 HT20.out).mono ?_; rintro u w21 ⟨rfl, hb⟩; have B21 := btO B20 hb; obtain ⟨j20_x0, j20_x1, j20_x2, j20_x3, j20_x4, j20_y0, j20_y1, j20_y2, j20_y3, j20_y4, j20_v0, j20_v1⟩ := HG.out _ B21; clear hb))
          all_goals (
            go_wp2_with (first | (go_at_call 39; have _t := B21; ((with_reducible refine (Hcm.out _ B21).mono ?_); rintro u w22 ⟨rfl, hb⟩; have B22 := btO B21 hb; clear hb)) | (go_at_call 42; have _t := B22; ((with_reducible refine (Hmul.out _ B22).mono ?_); rintro u w23 ⟨rfl, hb⟩; have B23 := btO B22 hb; clear hb)))
            go_roundw
            all_goals first
              | exact ⟨7, by decide, by decide, rfl, Lib.hid B23⟩
              | exact ⟨⟨7, by decide, by decide, rfl, Lib.hid B23⟩, by decide⟩
              | decide))
      · as_aux_lemma =>
        rcases Hk7.out with ⟨rfl, hK, rfl⟩ | ⟨rfl, hK, rfl⟩ | ⟨hg, hK, rfl⟩ | ⟨hg, hK, rfl⟩
        all_goals (
          clear Hk4 Hk5 Hk6 Hk7 Hk8 Hkf
          try have hg2 : (i == 0) = false := beq_eq_false_iff_ne.2 (bne_iff_ne.1 hg)
          go_wp2_with (fail)
          have BR20 := (Below.drew HW.out)
          go_region_held3 (fun w' => w'.cell? ⟨w.heap.size, 0, none⟩ = some (.int .u8 X.k) ∧ w'.cell? ⟨w.heap.size, 1, none⟩ = some (.string X.r) ∧ w'.cell? ⟨w.heap.size, 2, none⟩ = some (.string X.n) ∧ w'.cell? ⟨w.heap.size, 3, none⟩ = some (.int .i64 X.d) ∧ w'.cell? ⟨w.heap.size, 4, none⟩ = some (.slice X.A X.sub.length X.c) ∧ w'.cell? ⟨w.heap.size + 1, 0, none⟩ = some (.int .u8 Y.k) ∧ w'.cell? ⟨w.heap.size + 1, 1, none⟩ = some (.string Y.r) ∧ w'.cell? ⟨w.heap.size + 1, 2, none⟩ = some (.string Y.n) ∧ w'.cell? ⟨w.heap.size + 1, 3, none⟩ = some (.int .i64 Y.d) ∧ w'.cell? ⟨w.heap.size + 1, 4, none⟩ = some (.slice Y.A Y.sub.length Y.c) ∧ w'.cell? ⟨w.heap.size + 1 + 1, 0, none⟩ = some (.slice E.fA E.fs.length E.fc) ∧ w'.cell? ⟨w.heap.size + 1 + 1, 1, none⟩ = some (.slice E.cA E.cs.length E.cc))
            (((try go_split_ands); (and_intros) <;> first | assumption | (go_keep; done)))
            (first
              | (go_split_ands; go_at_call 12; refine (Hp.out _ BR20 7 (by decide) (by decide)).mono ?_; rintro u w20 ⟨bb20, rfl, hi, hb⟩; have B20 := btO BR20 hb; obtain ⟨i20_x0, i20_x1, i20_x2, i20_x3, i20_x4, i20_y0, i20_y1, i20_y2, i20_y3, i20_y4, i20_v0, i20_v1⟩ := HG.out _ B20; have HT20 := Lib.hid hi; have HV20 := Lib.hid (fun W hW hT => Hv7.out W hW bb20 hT); clear hi hb; generalize pairT 7 bb20 X Y = T20 at *)
              | (go_split_ands; go_at_call 17; refine (HV20.out _ B20 HT20.out).mono ?_; rintro u w21 ⟨rfl, hb⟩; have B21 := btO B20 hb; obtain ⟨j20_x0, j20_x1, j20_x2, j20_x3, j20_x4, j20_y0, j20_y1, j20_y2, j20_y3, j20_y4, j20_v0, j20_v1⟩ := HG.out _ B21; clear hb))
          all_goals (
            go_wp2_with (first | (go_at_call 39; have _t := B21; ((with_reducible refine (Hcm.out _ B21).mono ?_); rintro u w22 ⟨rfl, hb⟩; have B22 := btO B21 hb; clear hb)))
            go_roundw
            all_goals first
              | exact ⟨8, by decide, by decide, rfl, Lib.hid B22⟩
              | exact ⟨⟨8, by decide, by decide, rfl, Lib.hid B22⟩, by decide⟩
              | decide))
      · as_aux_lemma =>
        rcases Hk8.out with ⟨rfl, hK, rfl⟩ | ⟨rfl, hK, rfl⟩ | ⟨hg, hK, rfl⟩ | ⟨hg, hK, rfl⟩
        all_goals (
          clear Hk4 Hk5 Hk6 Hk7 Hk8 Hkf
          try have hg2 : (i == 0) = false := beq_eq_false_iff_ne.2 (bne_iff_ne.1 hg)
          go_wp2_with (fail)
          have BR20 := (Below.drew HW.out)
          go_region_held3 (fun w' => w'.cell? ⟨w.heap.size, 0, none⟩ = some (.int .u8 X.k) ∧ w'.cell? ⟨w.heap.size, 1, none⟩ = some (.string X.r) ∧ w'.cell? ⟨w.heap.size, 2, none⟩ = some (.string X.n) ∧ w'.cell? ⟨w.heap.size, 3, none⟩ = some (.int .i64 X.d) ∧ w'.cell? ⟨w.heap.size, 4, none⟩ = some (.slice X.A X.sub.length X.c) ∧ w'.cell? ⟨w.heap.size + 1, 0, none⟩ = some (.int .u8 Y.k) ∧ w'.cell? ⟨w.heap.size + 1, 1, none⟩ = some (.string Y.r) ∧ w'.cell? ⟨w.heap.size + 1, 2, none⟩ = some (.string Y.n) ∧ w'.cell? ⟨w.heap.size + 1, 3, none⟩ = some (.int .i64 Y.d) ∧ w'.cell? ⟨w.heap.size + 1, 4, none⟩ = some (.slice Y.A Y.sub.length Y.c) ∧ w'.cell? ⟨w.heap.size + 1 + 1, 0, none⟩ = some (.slice E.fA E.fs.length E.fc) ∧ w'.cell? ⟨w.heap.size + 1 + 1, 1, none⟩ = some (.slice E.cA E.cs.length E.cc))
            (((try go_split_ands); (and_intros) <;> first | assumption | (go_keep; done)))
            (first
              | (go_split_ands; go_at_call 12; refine (Hp.out _ BR20 8 (by decide) (by decide)).mono ?_; rintro u w20 ⟨bb20, rfl, hi, hb⟩; have B20 := btO BR20 hb; obtain ⟨i20_x0, i20_x1, i20_x2, i20_x3, i20_x4, i20_y0, i20_y1, i20_y2, i20_y3, i20_y4, i20_v0, i20_v1⟩ := HG.out _ B20; have HT20 := Lib.hid hi; have HV20 := Lib.hid (fun W hW hT => Hv8.out W hW bb20 hT); clear hi hb; generalize pairT 8 bb20 X Y = T20 at *)
              | (go_split_ands; go_at_call 17; refine (HV20.out _ B20 HT20.out).mono ?_; rintro u w21 ⟨rfl, hb⟩; have B21 := btO B20 hb; obtain ⟨j20_x0, j20_x1, j20_x2, j20_x3, j20_x4, j20_y0, j20_y1, j20_y2, j20_y3, j20_y4, j20_v0, j20_v1⟩ := HG.out _ B21; clear hb))
          all_goals (
            go_wp2_with (first | (go_at_call 39; have _t := B21; ((with_reducible refine (Hcm.out _ B21).mono ?_); rintro u w22 ⟨rfl, hb⟩; have B22 := btO B21 hb; clear hb)))
            go_roundw
            all_goals first
              | exact ⟨9, by decide, by decide, rfl, Lib.hid B22⟩
              | exact ⟨⟨9, by decide, by decide, rfl, Lib.hid B22⟩, by decide⟩
              | decide))
    · obtain rfl : k = 9 := by omega
      as_aux_lemma =>
      rcases Hkf.out with ⟨hg, rfl, rfl⟩ | ⟨rfl, hK, hK2, rfl, rfl⟩ | ⟨rfl, rfl, rfl, rfl⟩ | ⟨rfl, hK, hK2, rfl, rfl⟩
      all_goals (
        clear Hk4 Hk5 Hk6 Hk7 Hk8 Hkf
        try have hg2 : (i == 0) = false := beq_eq_false_iff_ne.2 (bne_iff_ne.1 hg)
        go_wp2_with (fail)
        have BR30 := (Below.drew HW.out)
        go_region_held3 (fun w' => w'.cell? ⟨w.heap.size, 0, none⟩ = some (.int .u8 X.k) ∧ w'.cell? ⟨w.heap.size, 1, none⟩ = some (.string X.r) ∧ w'.cell? ⟨w.heap.size, 2, none⟩ = some (.string X.n) ∧ w'.cell? ⟨w.heap.size, 3, none⟩ = some (.int .i64 X.d) ∧ w'.cell? ⟨w.heap.size, 4, none⟩ = some (.slice X.A X.sub.length X.c) ∧ w'.cell? ⟨w.heap.size + 1, 0, none⟩ = some (.int .u8 Y.k) ∧ w'.cell? ⟨w.heap.size + 1, 1, none⟩ = some (.string Y.r) ∧ w'.cell? ⟨w.heap.size + 1, 2, none⟩ = some (.string Y.n) ∧ w'.cell? ⟨w.heap.size + 1, 3, none⟩ = some (.int .i64 Y.d) ∧ w'.cell? ⟨w.heap.size + 1, 4, none⟩ = some (.slice Y.A Y.sub.length Y.c) ∧ w'.cell? ⟨w.heap.size + 1 + 1, 0, none⟩ = some (.slice E.fA E.fs.length E.fc) ∧ w'.cell? ⟨w.heap.size + 1 + 1, 1, none⟩ = some (.slice E.cA E.cs.length E.cc))
          (((try go_split_ands); (and_intros) <;> first | assumption | (go_keep; done)))
          (first
            | (go_split_ands; go_at_call 12; refine (Hp.out _ BR30 11 (by decide) (by decide)).mono ?_; rintro u w30 ⟨bb30, rfl, hi, hb⟩; have B30 := btO BR30 hb; obtain ⟨i30_x0, i30_x1, i30_x2, i30_x3, i30_x4, i30_y0, i30_y1, i30_y2, i30_y3, i30_y4, i30_v0, i30_v1⟩ := HG.out _ B30; have HT30 := Lib.hid hi; have HV30 := Lib.hid (fun W hW hT => Hl1.out W hW bb30 hT); clear hi hb; generalize pairT 11 bb30 X Y = T30 at *)
            | (go_split_ands; go_at_call 18; refine (HV30.out _ B30 HT30.out).mono ?_; rintro u w31 ⟨rfl, hb⟩; have B31 := btO B30 hb; obtain ⟨j30_x0, j30_x1, j30_x2, j30_x3, j30_x4, j30_y0, j30_y1, j30_y2, j30_y3, j30_y4, j30_v0, j30_v1⟩ := HG.out _ B31; clear hb))
        all_goals go_wp2_with (fail)
        all_goals (
          have BR40 := (Below.drew B31)
          go_region_held3 (fun w' => w'.cell? ⟨w.heap.size, 0, none⟩ = some (.int .u8 X.k) ∧ w'.cell? ⟨w.heap.size, 1, none⟩ = some (.string X.r) ∧ w'.cell? ⟨w.heap.size, 2, none⟩ = some (.string X.n) ∧ w'.cell? ⟨w.heap.size, 3, none⟩ = some (.int .i64 X.d) ∧ w'.cell? ⟨w.heap.size, 4, none⟩ = some (.slice X.A X.sub.length X.c) ∧ w'.cell? ⟨w.heap.size + 1, 0, none⟩ = some (.int .u8 Y.k) ∧ w'.cell? ⟨w.heap.size + 1, 1, none⟩ = some (.string Y.r) ∧ w'.cell? ⟨w.heap.size + 1, 2, none⟩ = some (.string Y.n) ∧ w'.cell? ⟨w.heap.size + 1, 3, none⟩ = some (.int .i64 Y.d) ∧ w'.cell? ⟨w.heap.size + 1, 4, none⟩ = some (.slice Y.A Y.sub.length Y.c) ∧ w'.cell? ⟨w.heap.size + 1 + 1, 0, none⟩ = some (.slice E.fA E.fs.length E.fc) ∧ w'.cell? ⟨w.heap.size + 1 + 1, 1, none⟩ = some (.slice E.cA E.cs.length E.cc))
            (((try go_split_ands); (and_intros) <;> first | assumption | (go_keep; done)))
            (first
              | (go_split_ands; go_at_call 12; refine (Hp.out _ BR40 12 (by decide) (by decide)).mono ?_; rintro u w40 ⟨bb40, rfl, hi, hb⟩; have B40 := btO BR40 hb; obtain ⟨i40_x0, i40_x1, i40_x2, i40_x3, i40_x4, i40_y0, i40_y1, i40_y2, i40_y3, i40_y4, i40_v0, i40_v1⟩ := HG.out _ B40; have HT40 := Lib.hid hi; have HV40 := Lib.hid (fun W hW hT => Hl2.out W hW bb40 hT); clear hi hb; generalize pairT 12 bb40 X Y = T40 at *)
              | (go_split_ands; go_at_call 18; refine (HV40.out _ B40 HT40.out).mono ?_; rintro u w41 ⟨rfl, hb⟩; have B41 := btO B40 hb; obtain ⟨j40_x0, j40_x1, j40_x2, j40_x3, j40_x4, j40_y0, j40_y1, j40_y2, j40_y3, j40_y4, j40_v0, j40_v1⟩ := HG.out _ B41; clear hb))
          all_goals go_wp2_with (go_at_call 39; have _t := B41; ((with_reducible refine (Hcm.out _ B41).mono ?_); rintro u w42 ⟨rfl, hb⟩; have B42 := btO B41 hb; clear hb))
          all_goals go_ret
          all_goals exact ⟨rfl, btO HB.out B42⟩))
end Go.Proofs.YtnomccgdajcfiaaGreatDoor
/- The law ObservableParts. -/
namespace Go.Proofs.YtnomccgdajcfiaaGreatDoor
open Go Go.RowKit
theorem valN_size {t : Ex} {day : Int} {fs : List Fx} {cs : List Cx} (hf : ∀ f ∈ fs, f.2.2.size ≤ 1048576) (hb : t.byt ≤ 12000) : (valN t day fs cs).1.size ≤ 1048576 := by
  unfold valN
  split
  · exact Nat.zero_le _
  · exact Ex.ev_size hf day t hb
theorem pairT_siz (k : Int) (b : Nat) (x y : Ex) : (pairT k b x y).siz = 1 + (x.siz + y.siz) := by unfold pairT; rw [Ex.siz_mk]; simp
theorem pairT_byt (k : Int) (b : Nat) (x y : Ex) : (pairT k b x y).byt = x.byt + y.byt := by
  unfold pairT; rw [Ex.byt_mk]
  have h : (⟨#[]⟩ : ByteArray).size = 0 := rfl
  simp only [h, List.map_cons, List.map_nil, List.sum_cons, List.sum_nil]; omega
theorem opR_00 (k : Int) (a b : ByteArray) : opR k (a, 0) (b, 0) = opN k a b := by unfold opR; rw [if_neg (by simp), if_neg (by simp)]
theorem cpR_00 (k : Int) (a b : ByteArray) : cpR k (a, 0) (b, 0) = cpT k a b := by unfold cpR; rw [if_neg (by simp), if_neg (by simp)]
theorem opR_e {k : Int} {x y : NR} {g : Int} (h : (x.2 ≠ 0 ∧ g = x.2) ∨ (x.2 = 0 ∧ y.2 ≠ 0 ∧ g = y.2)) : opR k x y = (⟨#[]⟩, g) := by
  unfold opR
  rcases h with ⟨h, rfl⟩ | ⟨h, h2, rfl⟩
  · rw [if_pos h]
  · rw [if_neg (by simpa using h), if_pos h2]
theorem cpR_e {k : Int} {x y : NR} {g : Int} (h : (x.2 ≠ 0 ∧ g = x.2) ∨ (x.2 = 0 ∧ y.2 ≠ 0 ∧ g = y.2)) : cpR k x y = (false, g) := by
  unfold cpR
  rcases h with ⟨h, rfl⟩ | ⟨h, h2, rfl⟩
  · rw [if_pos h]
  · rw [if_neg (by simpa using h), if_pos h2]
theorem opN_ok (k : Int) (a b : ByteArray) : (opN k a b).2 = 0 ∨ (((opN k a b).2 != 0) = true ∧ (opN k a b).1 = ⟨#[]⟩) := by
  by_cases h : (opN k a b).2 = 0
  · exact .inl h
  · exact .inr ⟨ne_decO h, opN_err k a b h⟩
theorem opN_gt (a b : ByteArray) : (opN 7 a b).2 = twC comC a.data.toList b.data.toList ∧ ((twC comC a.data.toList b.data.toList = 0 ∧ decide (twK a.data.toList b.data.toList < 0) = true ∧ (opN 7 a b).1 = b) ∨ (twC comC a.data.toList b.data.toList = 0 ∧ decide (twK a.data.toList b.data.toList < 0) = false ∧ (opN 7 a b).1 = a) ∨ ((twC comC a.data.toList b.data.toList != 0) = true ∧ (opN 7 a b).1 = ⟨#[]⟩)) := by
  unfold opN
  rw [if_neg (by decide), if_neg (by decide), if_neg (by decide)]
  by_cases h : twC comC a.data.toList b.data.toList = 0
  · rw [if_pos h]
    refine ⟨h.symm, ?_⟩
    by_cases hr : twK a.data.toList b.data.toList < 0
    · exact .inl ⟨h, decide_eq_true hr, by show (if _ then _ else _) = _; rw [if_pos (.inl ⟨rfl, hr⟩)]⟩
    · exact .inr (.inl ⟨h, decide_eq_false hr, by show (if _ then _ else _) = _; rw [if_neg (by rintro (⟨-, g⟩ | ⟨g, -⟩) <;> first | exact hr g | exact absurd g (by decide))]⟩)
  · rw [if_neg h]
    exact ⟨rfl, .inr (.inr ⟨ne_decO h, rfl⟩)⟩
theorem opN_sm (a b : ByteArray) : (opN 8 a b).2 = twC comC a.data.toList b.data.toList ∧ ((twC comC a.data.toList b.data.toList = 0 ∧ decide (0 < twK a.data.toList b.data.toList) = true ∧ (opN 8 a b).1 = b) ∨ (twC comC a.data.toList b.data.toList = 0 ∧ decide (0 < twK a.data.toList b.data.toList) = false ∧ (opN 8 a b).1 = a) ∨ ((twC comC a.data.toList b.data.toList != 0) = true ∧ (opN 8 a b).1 = ⟨#[]⟩)) := by
  unfold opN
  rw [if_neg (by decide), if_neg (by decide), if_neg (by decide)]
  by_cases h : twC comC a.data.toList b.data.toList = 0
  · rw [if_pos h]
    refine ⟨h.symm, ?_⟩
    by_cases hr : 0 < twK a.data.toList b.data.toList
    · exact .inl ⟨h, decide_eq_true hr, by show (if _ then _ else _) = _; rw [if_pos (.inr ⟨rfl, hr⟩)]⟩
    · exact .inr (.inl ⟨h, decide_eq_false hr, by show (if _ then _ else _) = _; rw [if_neg (by rintro (⟨g, -⟩ | ⟨-, g⟩) <;> first | exact hr g | exact absurd g (by decide))]⟩)
  · rw [if_neg h]
    exact ⟨rfl, .inr (.inr ⟨ne_decO h, rfl⟩)⟩
theorem cpT_ok (a b : ByteArray) : (cpT 11 a b).2 = twC comC a.data.toList b.data.toList ∧ (cpT 12 a b).2 = twC comC a.data.toList b.data.toList ∧
    (((twC comC a.data.toList b.data.toList != 0) = true ∧ (cpT 11 a b).1 = false ∧ (cpT 12 a b).1 = false) ∨ (twC comC a.data.toList b.data.toList = 0 ∧ decide (twK a.data.toList b.data.toList < 0) = true ∧ (twK a.data.toList b.data.toList == 0) = false ∧ (cpT 11 a b).1 = true ∧ (cpT 12 a b).1 = false) ∨
      (twC comC a.data.toList b.data.toList = 0 ∧ twK a.data.toList b.data.toList = 0 ∧ (cpT 11 a b).1 = false ∧ (cpT 12 a b).1 = true) ∨ (twC comC a.data.toList b.data.toList = 0 ∧ decide (twK a.data.toList b.data.toList < 0) = false ∧ (twK a.data.toList b.data.toList == 0) = false ∧ (cpT 11 a b).1 = false ∧ (cpT 12 a b).1 = false)) := by
  unfold cpT
  generalize twK a.data.toList b.data.toList = K
  generalize twC comC a.data.toList b.data.toList = i
  by_cases h : i = 0
  · subst h
    rw [if_pos rfl, if_pos rfl]
    refine ⟨rfl, rfl, .inr ?_⟩
    have n1 : ¬ ((11 : Int) = 12) := by decide
    have n2 : ¬ ((12 : Int) = 11) := by decide
    rcases Int.lt_trichotomy K 0 with g | g | g
    · have g2 : ¬ K = 0 := by omega
      exact .inl ⟨rfl, decide_eq_true g, beq_eq_false_iff_ne.2 g2, by simp [g], by simp [g2]⟩
    · have g2 : ¬ K < 0 := by omega
      exact .inr (.inl ⟨rfl, g, by simp [g2], by simp [g]⟩)
    · have g2 : ¬ K < 0 := by omega
      have g3 : ¬ K = 0 := by omega
      exact .inr (.inr ⟨rfl, decide_eq_false g2, beq_eq_false_iff_ne.2 g3, by simp [g2], by simp [g3]⟩)
  · rw [if_neg h, if_neg h]
    exact ⟨rfl, rfl, .inl ⟨ne_decO h, rfl, rfl⟩⟩
theorem split4 {p q r v s : Prop} {d : Bool} (h : (p ∧ d = true ∧ q) ∨ (p ∧ d = false ∧ r) ∨ (v ∧ s)) : (p ∧ d = true ∧ q) ∨ (p ∧ d = false ∧ r) ∨ (v ∧ d = true ∧ s) ∨ (v ∧ d = false ∧ s) := by
  rcases h with h | h | ⟨h1, h2⟩
  · exact .inl h
  · exact .inr (.inl h)
  · cases d
    · exact .inr (.inr (.inr ⟨h1, rfl, h2⟩))
    · exact .inr (.inr (.inl ⟨h1, rfl, h2⟩))
section
variable (X Y : Ex) (E : Ev) (day : Int) (w : World) (hX : X.In w) (hY : Y.In w) (hE : E.Inv w)
include hX hY hE
theorem parts_law8 : Calls Tryz.prog 6 #[X.val, Y.val, .int .i64 day, E.val] w (BoolRO true w) := by
  have hal : ∀ W, Below w.heap.size w W → Calls Tryz.prog 23 #[] W (BoolRO true W) := fun W hW => alive_any8 W (hE.below hW).v
  have hgx : ∀ W, Below w.heap.size w W → Calls Tryz.prog 34 #[X.val] W (BoolRO X.grt W) := fun W hW => great_anyO X W (hX.below hW)
  have hgy : ∀ W, Below w.heap.size w W → Calls Tryz.prog 34 #[Y.val] W (BoolRO Y.grt W) := fun W hW => great_anyO Y W (hY.below hW)
  have hgv : ∀ W, Below w.heap.size w W → Calls Tryz.prog 24 #[E.val] W (BoolRO E.grt W) := fun W hW => greatEnv_any E W (hE.below hW).i
  have no : ∀ {P : Prop}, False → P := fun h => h.elim
  cases gx : X.grt
  · cases gy : Y.grt
    · cases gv : E.grt
      · rw [gx] at hgx; rw [gy] at hgy; rw [gv] at hgv
        obtain ⟨x1, -, x3⟩ := Ex.grt_not gx
        obtain ⟨y1, -, y3⟩ := Ex.grt_not gy
        obtain ⟨-, -, s1, -⟩ := Ev.grt_not gv
        have hsf : ∀ f ∈ E.fs, f.2.2.size ≤ 1048576 := fun f hf => by have := (s1 f hf).2; omega
        have hsx : True → ∀ W, Below w.heap.size w W → Calls Tryz.prog 37 #[X.val] W (IntRO X.siz W) := fun _ W hW => rsize8_any X W (hX.below hW) x1
        have hdx : True → ∀ W, Below w.heap.size w W → Calls Tryz.prog 38 #[X.val] W (IntRO X.dep W) := fun _ W hW => rdepth8_any X W (hX.below hW) x1
        have hsy : True → ∀ W, Below w.heap.size w W → Calls Tryz.prog 37 #[Y.val] W (IntRO Y.siz W) := fun _ W hW => rsize8_any Y W (hY.below hW) y1
        have hdy : True → ∀ W, Below w.heap.size w W → Calls Tryz.prog 38 #[Y.val] W (IntRO Y.dep W) := fun _ W hW => rdepth8_any Y W (hY.below hW) y1
        by_cases q0 : 200 < (X.siz : Int)
        · exact parts_out True False X Y E day false false false false false _ _ _ _ 0 0 ⟨#[]⟩ ⟨#[]⟩ w hal hgx hgy hgv hsx hsy hdx hdy no no no no (.inr (.inr (.inr (.inl (⟨trivial, rfl, rfl, rfl, q0⟩)))))
        by_cases q1 : 200 < (Y.siz : Int)
        · exact parts_out True False X Y E day false false false false false _ _ _ _ 0 0 ⟨#[]⟩ ⟨#[]⟩ w hal hgx hgy hgv hsx hsy hdx hdy no no no no (.inr (.inr (.inr (.inr (.inl (⟨trivial, rfl, rfl, rfl, q0, q1⟩))))))
        by_cases q2 : 59 < (X.dep : Int)
        · exact parts_out True False X Y E day false false false false false _ _ _ _ 0 0 ⟨#[]⟩ ⟨#[]⟩ w hal hgx hgy hgv hsx hsy hdx hdy no no no no (.inr (.inr (.inr (.inr (.inr (.inl (⟨trivial, rfl, rfl, rfl, q0, q1, q2⟩)))))))
        by_cases q3 : 59 < (Y.dep : Int)
        · exact parts_out True False X Y E day false false false false false _ _ _ _ 0 0 ⟨#[]⟩ ⟨#[]⟩ w hal hgx hgy hgv hsx hsy hdx hdy no no no no (.inr (.inr (.inr (.inr (.inr (.inr (.inl (⟨trivial, rfl, rfl, rfl, q0, q1, q2, q3⟩))))))))
        have hvx : True → ∀ W, Below w.heap.size w W → Calls Tryz.prog 17 #[X.val, .int .i64 day, E.val] W (StE (valN X day E.fs E.cs).1 (valN X day E.fs E.cs).2 W) := fun _ W hW => pvalue_any X E day W (hX.below hW) (hE.below hW) x1 x3 hsf
        have hnx : True → ∀ W, Below w.heap.size w W → Calls Tryz.prog 14 #[X.val] W (BoolRO (X.isB 1) W) := fun _ W hW => pnumber_any X W (hX.below hW) x3 (hE.below hW).v
        have hvy : True → ∀ W, Below w.heap.size w W → Calls Tryz.prog 17 #[Y.val, .int .i64 day, E.val] W (StE (valN Y day E.fs E.cs).1 (valN Y day E.fs E.cs).2 W) := fun _ W hW => pvalue_any Y E day W (hY.below hW) (hE.below hW) y1 y3 hsf
        have hny : True → ∀ W, Below w.heap.size w W → Calls Tryz.prog 14 #[Y.val] W (BoolRO (Y.isB 1) W) := fun _ W hW => pnumber_any Y W (hY.below hW) y3 (hE.below hW).v
        cases n1 : X.isB 1
        · exact parts_out True True X Y E day false false false _ _ _ _ _ _ _ _ _ _ w hal hgx hgy hgv hsx hsy hdx hdy hvx hvy hnx hny (.inr (.inr (.inr (.inr (.inr (.inr (.inr (.inl (⟨trivial, trivial, rfl, rfl, rfl, q0, q1, q2, q3, ne_decO (valN_not n1), n1⟩)))))))))
        cases n2 : Y.isB 1
        · by_cases he : (valN X day E.fs E.cs).2 = 0
          · exact parts_out True True X Y E day false false false _ _ _ _ _ _ _ _ _ _ w hal hgx hgy hgv hsx hsy hdx hdy hvx hvy hnx hny (.inr (.inr (.inr (.inr (.inr (.inr (.inr (.inr (.inr (⟨trivial, trivial, rfl, rfl, rfl, q0, q1, q2, q3, he, ne_decO (valN_not n2), n1, n2⟩))))))))))
          · exact parts_out True True X Y E day false false false _ _ _ _ _ _ _ _ _ _ w hal hgx hgy hgv hsx hsy hdx hdy hvx hvy hnx hny (.inr (.inr (.inr (.inr (.inr (.inr (.inr (.inr (.inl (⟨trivial, trivial, rfl, rfl, rfl, q0, q1, q2, q3, ne_decO he, n1, n2⟩))))))))))
        have bx := Ex.grt_byt gx
        have by_ := Ex.grt_byt gy
        have X2 : X.siz ≤ 200 := by omega
        have Y2 : Y.siz ≤ 200 := by omega
        have X4 : X.dep ≤ 59 := by omega
        have Y4 : Y.dep ≤ 59 := by omega
        have hp : ∀ W, Below w.heap.size w W → ∀ k : Int, 4 ≤ k → k ≤ 12 → Calls Tryz.prog 12 #[.int .u8 k, X.val, Y.val] W (PairR k X Y W) := fun W hW k k0 k1 => pair_any8 k (by omega) (by omega) X Y W (hX.below hW) (hY.below hW)
        have hv : ∀ k : Int, 4 ≤ k → k ≤ 8 → ∀ W bb, Below w.heap.size w W → (pairT k bb X Y).In W → Calls Tryz.prog 17 #[(pairT k bb X Y).val, .int .i64 day, E.val] W (StE (opR k (valN X day E.fs E.cs) (valN Y day E.fs E.cs)).1 (opR k (valN X day E.fs E.cs) (valN Y day E.fs E.cs)).2 W) := fun k k0 k1 W bb hW hT => by
          rw [← valN_pair k0 k1 bb n1 n2 X2 Y2 X4 Y4]
          exact pvalue_any _ E day W hT (hE.below hW) (by rw [pairT_siz]; omega) (by rw [pairT_byt]; omega) hsf
        have hl : ∀ k : Int, 11 ≤ k → k ≤ 12 → ∀ W bb, Below w.heap.size w W → (pairT k bb X Y).In W → Calls Tryz.prog 18 #[(pairT k bb X Y).val, .int .i64 day, E.val] W (TrE (cpR k (valN X day E.fs E.cs) (valN Y day E.fs E.cs)).1 (cpR k (valN X day E.fs E.cs) (valN Y day E.fs E.cs)).2 W) := fun k k0 k1 W bb hW hT => by
          rw [← hldT_cp k0 k1 bb n1 n2 X2 Y2 X4 Y4]
          exact pholds_any _ E day W hT (hE.below hW) (by rw [pairT_siz]; omega) (by rw [pairT_byt]; omega) hsf
        have zx := valN_size (day := day) (cs := E.cs) hsf x3
        have zy := valN_size (day := day) (cs := E.cs) hsf y3
        rw [n1] at hnx; rw [n2] at hny
        clear hsf s1 gx gy gv n1 n2
        generalize valN X day E.fs E.cs = A at *
        generalize valN Y day E.fs E.cs = B at *
        obtain ⟨a, e⟩ := A
        obtain ⟨b, f⟩ := B
        by_cases he : e = 0
        · subst he
          by_cases hf : f = 0
          · subst hf
            simp only [opR_00] at hv
            simp only [cpR_00] at hl
            have hVr := fun W (hW : Below w.heap.size w W) => (hE.below hW).v
            obtain ⟨o1, o2⟩ := opN_gt a b
            obtain ⟨o3, o4⟩ := opN_sm a b
            obtain ⟨o5, o6, o7⟩ := cpT_ok a b
            exact parts_ok X Y E day _ _ _ _ a b _ _ _ _ _ _ _ _ (twK a.data.toList b.data.toList) (twC comC a.data.toList b.data.toList) _ _ w hal hgx hgy hgv hsx hsy hdx hdy hvx hvy hnx hny hp
              (fun W hW bb => hv 4 (by decide) (by decide) W bb hW)
              (fun W hW bb => hv 5 (by decide) (by decide) W bb hW)
              (fun W hW bb => hv 6 (by decide) (by decide) W bb hW)
              (fun W hW bb => by have := hv 7 (by decide) (by decide) W bb hW; rw [o1] at this; exact this)
              (fun W hW bb => by have := hv 8 (by decide) (by decide) W bb hW; rw [o3] at this; exact this)
              (fun W hW bb => by have := hl 11 (by decide) (by decide) W bb hW; rw [o5] at this; exact this)
              (fun W hW bb => by have := hl 12 (by decide) (by decide) W bb hW; rw [o6] at this; exact this)
              (fun W hW => radd_any a b zx zy W (hVr W hW)) (fun W hW => rsub_any a b zx zy W (hVr W hW)) (fun W hW => rmul_any a b zx zy W (hVr W hW)) (fun W hW => rcompare_any a b zx zy W (hVr W hW)) q0 q1 q2 q3 (opN_ok 4 a b) (opN_ok 5 a b) (opN_ok 6 a b) (split4 o2) (split4 o4) o7
          · have g : ∀ k, opR k ((a, 0) : NR) (b, f) = (⟨#[]⟩, f) := fun k => opR_e (.inr ⟨rfl, hf, rfl⟩)
            have g2 : ∀ k, cpR k ((a, 0) : NR) (b, f) = (false, f) := fun k => cpR_e (.inr ⟨rfl, hf, rfl⟩)
            simp only [g] at hv
            simp only [g2] at hl
            exact parts_err X Y E day _ _ _ _ 0 f a b f w hal hgx hgy hgv hsx hsy hdx hdy hvx hvy hnx hny hp hv hl q0 q1 q2 q3 (.inr ⟨rfl, ne_decO hf, rfl⟩)
        · have g : ∀ k, opR k ((a, e) : NR) (b, f) = (⟨#[]⟩, e) := fun k => opR_e (.inl ⟨he, rfl⟩)
          have g2 : ∀ k, cpR k ((a, e) : NR) (b, f) = (false, e) := fun k => cpR_e (.inl ⟨he, rfl⟩)
          simp only [g] at hv
          simp only [g2] at hl
          exact parts_err X Y E day _ _ _ _ e f a b e w hal hgx hgy hgv hsx hsy hdx hdy hvx hvy hnx hny hp hv hl q0 q1 q2 q3 (.inl ⟨ne_decO he, rfl⟩)
      · rw [gx] at hgx; rw [gy] at hgy; rw [gv] at hgv
        exact parts_out False False X Y E day false false true false false 0 0 0 0 0 0 ⟨#[]⟩ ⟨#[]⟩ w hal hgx hgy hgv no no no no no no no no (.inr (.inr (.inl (⟨rfl, rfl, rfl⟩))))
    · rw [gx] at hgx; rw [gy] at hgy
      exact parts_out False False X Y E day false true _ false false 0 0 0 0 0 0 ⟨#[]⟩ ⟨#[]⟩ w hal hgx hgy hgv no no no no no no no no (.inr (.inl (⟨rfl, rfl⟩)))
  · rw [gx] at hgx
    exact parts_out False False X Y E day true _ _ false false 0 0 0 0 0 0 ⟨#[]⟩ ⟨#[]⟩ w hal hgx hgy hgv no no no no no no no no (.inl (⟨rfl, trivial⟩))
end
end Go.Proofs.YtnomccgdajcfiaaGreatDoor
/- The law ObservableLocal: the walks. -/
namespace Go.Proofs.YtnomccgdajcfiaaGreatDoor
open Go Go.RowKit Go.BigFrame
structure LcG (Q : Nat) (X : Ex) (E : Ev) (fn fv : ByteArray) (fd : Int) (W : World) : Prop where
  x0 : W.cell? ⟨Q, 0, none⟩ = some (.int .u8 X.k)
  x1 : W.cell? ⟨Q, 1, none⟩ = some (.string X.r)
  x2 : W.cell? ⟨Q, 2, none⟩ = some (.string X.n)
  x3 : W.cell? ⟨Q, 3, none⟩ = some (.int .i64 X.d)
  x4 : W.cell? ⟨Q, 4, none⟩ = some (.slice X.A X.sub.length X.c)
  v0 : W.cell? ⟨Q + 1, 0, none⟩ = some (.slice E.fA E.fs.length E.fc)
  v1 : W.cell? ⟨Q + 1, 1, none⟩ = some (.slice E.cA E.cs.length E.cc)
  f0 : W.cell? ⟨Q + 1 + 1, 0, none⟩ = some (.string fn)
  f1 : W.cell? ⟨Q + 1 + 1, 1, none⟩ = some (.int .i64 fd)
  f2 : W.cell? ⟨Q + 1 + 1, 2, none⟩ = some (.string fv)
theorem LcG.below {Q : Nat} {X : Ex} {E : Ev} {fn fv : ByteArray} {fd : Int} {W W' : World} (h : LcG Q X E fn fv fd W) (hb : Below W.heap.size W W') : LcG Q X E fn fv fd W' := ⟨cellO hb h.x0, cellO hb h.x1, cellO hb h.x2, cellO hb h.x3, cellO hb h.x4, cellO hb h.v0, cellO hb h.v1, cellO hb h.f0, cellO hb h.f1, cellO hb h.f2⟩
theorem lc_begin (w : World) (X : Ex) (E : Ev) (fn fv : ByteArray) (fd : Int) : ∃ w1, (((w.alloc (.cells #[.int .u8 X.k, .string X.r, .string X.n, .int .i64 X.d, .slice X.A X.sub.length X.c] 26)).alloc (.cells #[.slice E.fA E.fs.length E.fc, .slice E.cA E.cs.length E.cc] 38)).alloc (.cells #[.string fn, .int .i64 fd, .string fv] 44)) = w1 ∧ Below w.heap.size w w1 ∧ LcG w.heap.size X E fn fv fd w1 := by
  have r0 := heap_alloc_new w (.cells #[.int .u8 X.k, .string X.r, .string X.n, .int .i64 X.d, .slice X.A X.sub.length X.c] 26)
  have r1 := heap_alloc_new (w.alloc (.cells #[.int .u8 X.k, .string X.r, .string X.n, .int .i64 X.d, .slice X.A X.sub.length X.c] 26)) (.cells #[.slice E.fA E.fs.length E.fc, .slice E.cA E.cs.length E.cc] 38)
  rw [World.size_alloc] at r1
  have r2 := heap_alloc_new ((w.alloc (.cells #[.int .u8 X.k, .string X.r, .string X.n, .int .i64 X.d, .slice X.A X.sub.length X.c] 26)).alloc (.cells #[.slice E.fA E.fs.length E.fc, .slice E.cA E.cs.length E.cc] 38)) (.cells #[.string fn, .int .i64 fd, .string fv] 44)
  rw [World.size_alloc, World.size_alloc] at r2
  have b2 := belO ((w.alloc (.cells #[.int .u8 X.k, .string X.r, .string X.n, .int .i64 X.d, .slice X.A X.sub.length X.c] 26)).alloc (.cells #[.slice E.fA E.fs.length E.fc, .slice E.cA E.cs.length E.cc] 38)) (.cells #[.string fn, .int .i64 fd, .string fv] 44)
  have b1 := btO (belO (w.alloc (.cells #[.int .u8 X.k, .string X.r, .string X.n, .int .i64 X.d, .slice X.A X.sub.length X.c] 26)) (.cells #[.slice E.fA E.fs.length E.fc, .slice E.cA E.cs.length E.cc] 38)) b2
  exact ⟨_, rfl, btO (belO w _) b1, ⟨cellO b1 (row_cell (j := 0) r0 rfl), cellO b1 (row_cell (j := 1) r0 rfl), cellO b1 (row_cell (j := 2) r0 rfl), cellO b1 (row_cell (j := 3) r0 rfl), cellO b1 (row_cell (j := 4) r0 rfl), cellO b2 (row_cell (j := 0) r1 rfl), cellO b2 (row_cell (j := 1) r1 rfl), (row_cell (j := 0) r2 rfl), (row_cell (j := 1) r2 rfl), (row_cell (j := 2) r2 rfl)⟩⟩
set_option maxRecDepth 100000 in
set_option maxHeartbeats 25600000 in
theorem local_out (ok : Prop) (X : Ex) (E : Ev) (fn fv : ByteArray) (fd : Int) (day : Int) (bx bv nx : Bool) (w : World) (z1 : fn.size ≤ 140737488351232) (z2 : fv.size ≤ 140737488351232)
    (hal : ∀ W, Below w.heap.size w W → Calls Tryz.prog 23 #[] W (BoolRO true W))
    (hgx : ∀ W, Below w.heap.size w W → Calls Tryz.prog 34 #[.agg #[.int .u8 X.k, .string X.r, .string X.n, .int .i64 X.d, .slice X.A X.sub.length X.c]] W (BoolRO bx W))
    (hgv : ∀ W, Below w.heap.size w W → Calls Tryz.prog 24 #[.agg #[.slice E.fA E.fs.length E.fc, .slice E.cA E.cs.length E.cc]] W (BoolRO bv W))
    (hnx : ok → ∀ W, Below w.heap.size w W → Calls Tryz.prog 14 #[.agg #[.int .u8 X.k, .string X.r, .string X.n, .int .i64 X.d, .slice X.A X.sub.length X.c]] W (BoolRO nx W))
    (key : (bx = true ∧ True) ∨ (bx = false ∧ bv = true) ∨ (bx = false ∧ bv = false ∧ 1000 < (fn.size : Int)) ∨ (bx = false ∧ bv = false ∧ ¬ 1000 < (fn.size : Int) ∧ 3000 < (fv.size : Int)) ∨ (ok ∧ bx = false ∧ bv = false ∧ ¬ 1000 < (fn.size : Int) ∧ ¬ 3000 < (fv.size : Int) ∧ nx = false)) :
    Calls Tryz.prog 8 #[.agg #[.int .u8 X.k, .string X.r, .string X.n, .int .i64 X.d, .slice X.A X.sub.length X.c], .int .i64 day, .agg #[.slice E.fA E.fs.length E.fc, .slice E.cA E.cs.length E.cc], .agg #[.string fn, .int .i64 fd, .string fv]] w (BoolRO true w) := by
  obtain ⟨w1, hw1, hB, hS⟩ := lc_begin w X E fn fv fd
  have HB := Lib.hid hB
  have HG := Lib.hid (fun W (hW : Below w1.heap.size w1 W) => hS.below hW)
  have Hal := Lib.hid (fun W (hW : Below w1.heap.size w1 W) => hal W (btO hB hW))
  have Hgx := Lib.hid (fun W (hW : Below w1.heap.size w1 W) => hgx W (btO hB hW))
  have Hgv := Lib.hid (fun W (hW : Below w1.heap.size w1 W) => hgv W (btO hB hW))
  have Hnx := Lib.hid (fun (o : ok) W (hW : Below w1.heap.size w1 W) => hnx o W (btO hB hW))
  have HW1 := Lib.hid (Below.refl w1.heap.size w1)
  clear hB hS hal hgx hgv hnx
  obtain ⟨x0, x1, x2, x3, x4, v0, v1, f0, f1, f2⟩ := HG.out _ HW1.out
  clear z1 z2
  rcases key with ⟨rfl, -⟩ | ⟨rfl, rfl⟩ | ⟨rfl, rfl, q1⟩ | ⟨rfl, rfl, q1, q2⟩ | ⟨okh, rfl, rfl, q1, q2, rfl⟩
  all_goals (
    go_enter Tryz.func8, Tryz.ntmps8
    go_wp2_with (first
        | (go_at_call 14; have _t := HW4; ((with_reducible refine (Hnx.out okh _ HW4.out).mono ?_); rintro u w5 ⟨rfl, hb⟩; clear x0 x1 x2 x3 x4 v0 v1 f0 f1 f2; have HW5 := Lib.hid (btO HW4.out hb); obtain ⟨x0, x1, x2, x3, x4, v0, v1, f0, f1, f2⟩ := HG.out _ HW5.out; clear hb))
        | (go_at_call 24; have _t := HW3; ((with_reducible refine (Hgv.out _ HW3.out).mono ?_); rintro u w4 ⟨rfl, hb⟩; clear x0 x1 x2 x3 x4 v0 v1 f0 f1 f2; have HW4 := Lib.hid (btO HW3.out hb); obtain ⟨x0, x1, x2, x3, x4, v0, v1, f0, f1, f2⟩ := HG.out _ HW4.out; clear hb))
        | (go_at_call 34; have _t := HW2; ((with_reducible refine (Hgx.out _ HW2.out).mono ?_); rintro u w3 ⟨rfl, hb⟩; clear x0 x1 x2 x3 x4 v0 v1 f0 f1 f2; have HW3 := Lib.hid (btO HW2.out hb); obtain ⟨x0, x1, x2, x3, x4, v0, v1, f0, f1, f2⟩ := HG.out _ HW3.out; clear hb))
        | (go_at_call 23; have _t := HW1; ((with_reducible refine (Hal.out _ HW1.out).mono ?_); rintro u w2 ⟨rfl, hb⟩; clear x0 x1 x2 x3 x4 v0 v1 f0 f1 f2; have HW2 := Lib.hid (btO HW1.out hb); obtain ⟨x0, x1, x2, x3, x4, v0, v1, f0, f1, f2⟩ := HG.out _ HW2.out; clear hb)))
    go_ret
    exact ⟨rfl, btO HB.out (by first | exact HW5.out | exact HW4.out | exact HW3.out)⟩)
set_option maxRecDepth 100000 in
set_option maxHeartbeats 25600000 in
theorem local_far (X : Ex) (E : Ev) (fn fv : ByteArray) (fd : Int) (day : Int) (a : ByteArray) (e h : Int) (m : Bool) (aL : List Fx) (aC : List Cx) (w : World) (z1 : fn.size ≤ 140737488351232) (z2 : fv.size ≤ 140737488351232)
    (hal : ∀ W, Below w.heap.size w W → Calls Tryz.prog 23 #[] W (BoolRO true W))
    (hgx : ∀ W, Below w.heap.size w W → Calls Tryz.prog 34 #[.agg #[.int .u8 X.k, .string X.r, .string X.n, .int .i64 X.d, .slice X.A X.sub.length X.c]] W (BoolRO false W))
    (hgv : ∀ W, Below w.heap.size w W → Calls Tryz.prog 24 #[.agg #[.slice E.fA E.fs.length E.fc, .slice E.cA E.cs.length E.cc]] W (BoolRO false W))
    (hnx : ∀ W, Below w.heap.size w W → Calls Tryz.prog 14 #[.agg #[.int .u8 X.k, .string X.r, .string X.n, .int .i64 X.d, .slice X.A X.sub.length X.c]] W (BoolRO true W))
    (hvx : ∀ W, Below w.heap.size w W → Calls Tryz.prog 17 #[.agg #[.int .u8 X.k, .string X.r, .string X.n, .int .i64 X.d, .slice X.A X.sub.length X.c], .int .i64 day, .agg #[.slice E.fA E.fs.length E.fc, .slice E.cA E.cs.length E.cc]] W (StE a e W))
    (hfx : ∀ W, Below w.heap.size w W → Calls Tryz.prog 43 #[.agg #[.int .u8 X.k, .string X.r, .string X.n, .int .i64 X.d, .slice X.A X.sub.length X.c], .int .i64 day] W (FixR day X W))
    (hvf : 0 ≤ day → day ≤ 99999 → ∀ T' : Ex, T'.er = X.fx day → ∀ W, Below w.heap.size w W → T'.In W → Calls Tryz.prog 17 #[T'.val, .int .i64 day, .agg #[.slice E.fA E.fs.length E.fc, .slice E.cA E.cs.length E.cc]] W (StE a e W))
    (hput : ∀ W, Below w.heap.size w W → Calls Tryz.prog 19 #[.agg #[.slice E.fA E.fs.length E.fc, .slice E.cA E.cs.length E.cc], .agg #[.string fn, .int .i64 fd, .string fv]] W (EvP aL aC h W))
    (hmen : ∀ W, Below w.heap.size w W → Calls Tryz.prog 44 #[.agg #[.int .u8 X.k, .string X.r, .string X.n, .int .i64 X.d, .slice X.A X.sub.length X.c], .string fn] W (BoolRO m W))
    (hv2 : h = 0 → m = false → ∀ A c A2 c2 W, Below w.heap.size w W → Ev.In W ⟨A, aL, c, A2, aC, c2⟩ → Calls Tryz.prog 17 #[.agg #[.int .u8 X.k, .string X.r, .string X.n, .int .i64 X.d, .slice X.A X.sub.length X.c], .int .i64 day, .agg #[.slice A aL.length c, .slice A2 aC.length c2]] W (StE a e W))
    (q1 : ¬ 1000 < (fn.size : Int)) (q2 : ¬ 3000 < (fv.size : Int)) (hd : ¬ 0 ≤ day ∨ (0 ≤ day ∧ ¬ day ≤ 99999)) (key : ((h != 0) = true ∧ True) ∨ (h = 0 ∧ m = true) ∨ (h = 0 ∧ m = false)) :
    Calls Tryz.prog 8 #[.agg #[.int .u8 X.k, .string X.r, .string X.n, .int .i64 X.d, .slice X.A X.sub.length X.c], .int .i64 day, .agg #[.slice E.fA E.fs.length E.fc, .slice E.cA E.cs.length E.cc], .agg #[.string fn, .int .i64 fd, .string fv]] w (BoolRO true w) := by
  obtain ⟨w1, hw1, hB, hS⟩ := lc_begin w X E fn fv fd
  have HB := Lib.hid hB
  have HG := Lib.hid (fun W (hW : Below w1.heap.size w1 W) => hS.below hW)
  have Hal := Lib.hid (fun W (hW : Below w1.heap.size w1 W) => hal W (btO hB hW))
  have Hgx := Lib.hid (fun W (hW : Below w1.heap.size w1 W) => hgx W (btO hB hW))
  have Hgv := Lib.hid (fun W (hW : Below w1.heap.size w1 W) => hgv W (btO hB hW))
  have Hnx := Lib.hid (fun W (hW : Below w1.heap.size w1 W) => hnx W (btO hB hW))
  have Hvx := Lib.hid (fun W (hW : Below w1.heap.size w1 W) => hvx W (btO hB hW))
  have Hfx := Lib.hid (fun W (hW : Below w1.heap.size w1 W) => hfx W (btO hB hW))
  have Hput := Lib.hid (fun W (hW : Below w1.heap.size w1 W) => hput W (btO hB hW))
  have Hmen := Lib.hid (fun W (hW : Below w1.heap.size w1 W) => hmen W (btO hB hW))
  have HW1 := Lib.hid (Below.refl w1.heap.size w1)
  have Hvf := Lib.hid (fun h0 h1 T' he W (hW : Below w1.heap.size w1 W) => hvf h0 h1 T' he W (btO hB hW))
  have Hv2 := Lib.hid (fun h0 h1 A c A2 c2 W (hW : Below w1.heap.size w1 W) => hv2 h0 h1 A c A2 c2 W (btO hB hW))
  clear hB hS hvf hv2 hal hgx hgv hnx hvx hfx hput hmen
  obtain ⟨x0, x1, x2, x3, x4, v0, v1, f0, f1, f2⟩ := HG.out _ HW1.out
  clear z1 z2
  rcases hd with hd | ⟨hd, hd2⟩
  all_goals (
    rcases key with ⟨hq, -⟩ | ⟨rfl, rfl⟩ | ⟨rfl, rfl⟩
    all_goals (
      go_enter Tryz.func8, Tryz.ntmps8
      go_wp2_with (first
          | (go_at_call 17; have _t := HW12; ((with_reducible refine (Hv2.out (by first | exact trivial | rfl) (by first | exact trivial | rfl) _ _ _ _ _ HW12.out HI12.out).mono ?_); rintro u w13 ⟨rfl, hb⟩; have HW13 := Lib.hid (btO HW12.out hb); clear hb))
          | (go_at_call 44; have _t := HW11; ((with_reducible refine (Hmen.out _ (btO HW11.out (belO _ _))).mono ?_); rintro u w12 ⟨rfl, hb⟩; clear x0 x1 x2 x3 x4 v0 v1 f0 f1 f2 p0 p1; have HW12 := Lib.hid (btO (btO HW11.out (belO w11 (.cells #[.slice aA aL.length ac, .slice aB aC.length ak] 38))) hb); have HI12 := Lib.hid ((HI11.out.below (belO w11 (.cells #[.slice aA aL.length ac, .slice aB aC.length ak] 38))).below hb); obtain ⟨x0, x1, x2, x3, x4, v0, v1, f0, f1, f2⟩ := HG.out _ HW12.out; have p0 := cellO hb (row_cell (j := 0) HR.out rfl); have p1 := cellO hb (row_cell (j := 1) HR.out rfl); clear hb))
          | (go_at_call 19; have _t := HW6; ((with_reducible refine (Hput.out _ HW6.out).mono ?_); rintro u w11 ⟨aA, ac, aB, ak, rfl, hi, hk, hk2, hb⟩; clear x0 x1 x2 x3 x4 v0 v1 f0 f1 f2; have HW11 := Lib.hid (btO HW6.out hb); have HI11 := Lib.hid hi; have HR := Lib.hid (heap_alloc_new w11 (.cells #[.slice aA aL.length ac, .slice aB aC.length ak] 38)); obtain ⟨x0, x1, x2, x3, x4, v0, v1, f0, f1, f2⟩ := HG.out _ (btO HW11.out (belO w11 (.cells #[.slice aA aL.length ac, .slice aB aC.length ak] 38))); have p0 := row_cell (j := 0) HR.out rfl; have p1 := row_cell (j := 1) HR.out rfl; clear hi hk hk2 hb))
          | (go_at_call 17; have _t := HW5; ((with_reducible refine (Hvx.out _ HW5.out).mono ?_); rintro u w6 ⟨rfl, hb⟩; clear x0 x1 x2 x3 x4 v0 v1 f0 f1 f2; have HW6 := Lib.hid (btO HW5.out hb); obtain ⟨x0, x1, x2, x3, x4, v0, v1, f0, f1, f2⟩ := HG.out _ HW6.out; clear hb))
          | (go_at_call 14; have _t := HW4; ((with_reducible refine (Hnx.out _ HW4.out).mono ?_); rintro u w5 ⟨rfl, hb⟩; clear x0 x1 x2 x3 x4 v0 v1 f0 f1 f2; have HW5 := Lib.hid (btO HW4.out hb); obtain ⟨x0, x1, x2, x3, x4, v0, v1, f0, f1, f2⟩ := HG.out _ HW5.out; clear hb))
          | (go_at_call 24; have _t := HW3; ((with_reducible refine (Hgv.out _ HW3.out).mono ?_); rintro u w4 ⟨rfl, hb⟩; clear x0 x1 x2 x3 x4 v0 v1 f0 f1 f2; have HW4 := Lib.hid (btO HW3.out hb); obtain ⟨x0, x1, x2, x3, x4, v0, v1, f0, f1, f2⟩ := HG.out _ HW4.out; clear hb))
          | (go_at_call 34; have _t := HW2; ((with_reducible refine (Hgx.out _ HW2.out).mono ?_); rintro u w3 ⟨rfl, hb⟩; clear x0 x1 x2 x3 x4 v0 v1 f0 f1 f2; have HW3 := Lib.hid (btO HW2.out hb); obtain ⟨x0, x1, x2, x3, x4, v0, v1, f0, f1, f2⟩ := HG.out _ HW3.out; clear hb))
          | (go_at_call 23; have _t := HW1; ((with_reducible refine (Hal.out _ HW1.out).mono ?_); rintro u w2 ⟨rfl, hb⟩; clear x0 x1 x2 x3 x4 v0 v1 f0 f1 f2; have HW2 := Lib.hid (btO HW1.out hb); obtain ⟨x0, x1, x2, x3, x4, v0, v1, f0, f1, f2⟩ := HG.out _ HW2.out; clear hb)))
      go_ret
      exact ⟨rfl, btO HB.out (by first | exact HW13.out | exact HW12.out | exact btO HW11.out (belO _ _))⟩))
set_option maxRecDepth 100000 in
set_option maxHeartbeats 25600000 in
theorem local_day (X : Ex) (E : Ev) (fn fv : ByteArray) (fd : Int) (day : Int) (a : ByteArray) (e h : Int) (m : Bool) (aL : List Fx) (aC : List Cx) (w : World) (z1 : fn.size ≤ 140737488351232) (z2 : fv.size ≤ 140737488351232)
    (hal : ∀ W, Below w.heap.size w W → Calls Tryz.prog 23 #[] W (BoolRO true W))
    (hgx : ∀ W, Below w.heap.size w W → Calls Tryz.prog 34 #[.agg #[.int .u8 X.k, .string X.r, .string X.n, .int .i64 X.d, .slice X.A X.sub.length X.c]] W (BoolRO false W))
    (hgv : ∀ W, Below w.heap.size w W → Calls Tryz.prog 24 #[.agg #[.slice E.fA E.fs.length E.fc, .slice E.cA E.cs.length E.cc]] W (BoolRO false W))
    (hnx : ∀ W, Below w.heap.size w W → Calls Tryz.prog 14 #[.agg #[.int .u8 X.k, .string X.r, .string X.n, .int .i64 X.d, .slice X.A X.sub.length X.c]] W (BoolRO true W))
    (hvx : ∀ W, Below w.heap.size w W → Calls Tryz.prog 17 #[.agg #[.int .u8 X.k, .string X.r, .string X.n, .int .i64 X.d, .slice X.A X.sub.length X.c], .int .i64 day, .agg #[.slice E.fA E.fs.length E.fc, .slice E.cA E.cs.length E.cc]] W (StE a e W))
    (hfx : ∀ W, Below w.heap.size w W → Calls Tryz.prog 43 #[.agg #[.int .u8 X.k, .string X.r, .string X.n, .int .i64 X.d, .slice X.A X.sub.length X.c], .int .i64 day] W (FixR day X W))
    (hvf : 0 ≤ day → day ≤ 99999 → ∀ T' : Ex, T'.er = X.fx day → ∀ W, Below w.heap.size w W → T'.In W → Calls Tryz.prog 17 #[T'.val, .int .i64 day, .agg #[.slice E.fA E.fs.length E.fc, .slice E.cA E.cs.length E.cc]] W (StE a e W))
    (hput : ∀ W, Below w.heap.size w W → Calls Tryz.prog 19 #[.agg #[.slice E.fA E.fs.length E.fc, .slice E.cA E.cs.length E.cc], .agg #[.string fn, .int .i64 fd, .string fv]] W (EvP aL aC h W))
    (hmen : ∀ W, Below w.heap.size w W → Calls Tryz.prog 44 #[.agg #[.int .u8 X.k, .string X.r, .string X.n, .int .i64 X.d, .slice X.A X.sub.length X.c], .string fn] W (BoolRO m W))
    (hv2 : h = 0 → m = false → ∀ A c A2 c2 W, Below w.heap.size w W → Ev.In W ⟨A, aL, c, A2, aC, c2⟩ → Calls Tryz.prog 17 #[.agg #[.int .u8 X.k, .string X.r, .string X.n, .int .i64 X.d, .slice X.A X.sub.length X.c], .int .i64 day, .agg #[.slice A aL.length c, .slice A2 aC.length c2]] W (StE a e W))
    (q1 : ¬ 1000 < (fn.size : Int)) (q2 : ¬ 3000 < (fv.size : Int)) (hd0 : 0 ≤ day) (hd1 : day ≤ 99999) (key : ((h != 0) = true ∧ True) ∨ (h = 0 ∧ m = true) ∨ (h = 0 ∧ m = false)) :
    Calls Tryz.prog 8 #[.agg #[.int .u8 X.k, .string X.r, .string X.n, .int .i64 X.d, .slice X.A X.sub.length X.c], .int .i64 day, .agg #[.slice E.fA E.fs.length E.fc, .slice E.cA E.cs.length E.cc], .agg #[.string fn, .int .i64 fd, .string fv]] w (BoolRO true w) := by
  obtain ⟨w1, hw1, hB, hS⟩ := lc_begin w X E fn fv fd
  have HB := Lib.hid hB
  have HG := Lib.hid (fun W (hW : Below w1.heap.size w1 W) => hS.below hW)
  have Hal := Lib.hid (fun W (hW : Below w1.heap.size w1 W) => hal W (btO hB hW))
  have Hgx := Lib.hid (fun W (hW : Below w1.heap.size w1 W) => hgx W (btO hB hW))
  have Hgv := Lib.hid (fun W (hW : Below w1.heap.size w1 W) => hgv W (btO hB hW))
  have Hnx := Lib.hid (fun W (hW : Below w1.heap.size w1 W) => hnx W (btO hB hW))
  have Hvx := Lib.hid (fun W (hW : Below w1.heap.size w1 W) => hvx W (btO hB hW))
  have Hfx := Lib.hid (fun W (hW : Below w1.heap.size w1 W) => hfx W (btO hB hW))
  have Hput := Lib.hid (fun W (hW : Below w1.heap.size w1 W) => hput W (btO hB hW))
  have Hmen := Lib.hid (fun W (hW : Below w1.heap.size w1 W) => hmen W (btO hB hW))
  have HW1 := Lib.hid (Below.refl w1.heap.size w1)
  have Hvf := Lib.hid (fun h0 h1 T' he W (hW : Below w1.heap.size w1 W) => hvf h0 h1 T' he W (btO hB hW))
  have Hv2 := Lib.hid (fun h0 h1 A c A2 c2 W (hW : Below w1.heap.size w1 W) => hv2 h0 h1 A c A2 c2 W (btO hB hW))
  clear hB hS hvf hv2 hal hgx hgv hnx hvx hfx hput hmen
  obtain ⟨x0, x1, x2, x3, x4, v0, v1, f0, f1, f2⟩ := HG.out _ HW1.out
  clear z1 z2
  rcases key with ⟨hq, -⟩ | ⟨rfl, rfl⟩ | ⟨rfl, rfl⟩
  all_goals (
      go_enter Tryz.func8, Tryz.ntmps8
      go_wp2_with (first
          | (go_at_call 17; have _t := HW5; ((with_reducible refine (Hvx.out _ HW5.out).mono ?_); rintro u w6 ⟨rfl, hb⟩; clear x0 x1 x2 x3 x4 v0 v1 f0 f1 f2; have HW6 := Lib.hid (btO HW5.out hb); obtain ⟨x0, x1, x2, x3, x4, v0, v1, f0, f1, f2⟩ := HG.out _ HW6.out; clear hb))
          | (go_at_call 14; have _t := HW4; ((with_reducible refine (Hnx.out _ HW4.out).mono ?_); rintro u w5 ⟨rfl, hb⟩; clear x0 x1 x2 x3 x4 v0 v1 f0 f1 f2; have HW5 := Lib.hid (btO HW4.out hb); obtain ⟨x0, x1, x2, x3, x4, v0, v1, f0, f1, f2⟩ := HG.out _ HW5.out; clear hb))
          | (go_at_call 24; have _t := HW3; ((with_reducible refine (Hgv.out _ HW3.out).mono ?_); rintro u w4 ⟨rfl, hb⟩; clear x0 x1 x2 x3 x4 v0 v1 f0 f1 f2; have HW4 := Lib.hid (btO HW3.out hb); obtain ⟨x0, x1, x2, x3, x4, v0, v1, f0, f1, f2⟩ := HG.out _ HW4.out; clear hb))
          | (go_at_call 34; have _t := HW2; ((with_reducible refine (Hgx.out _ HW2.out).mono ?_); rintro u w3 ⟨rfl, hb⟩; clear x0 x1 x2 x3 x4 v0 v1 f0 f1 f2; have HW3 := Lib.hid (btO HW2.out hb); obtain ⟨x0, x1, x2, x3, x4, v0, v1, f0, f1, f2⟩ := HG.out _ HW3.out; clear hb))
          | (go_at_call 23; have _t := HW1; ((with_reducible refine (Hal.out _ HW1.out).mono ?_); rintro u w2 ⟨rfl, hb⟩; clear x0 x1 x2 x3 x4 v0 v1 f0 f1 f2; have HW2 := Lib.hid (btO HW1.out hb); obtain ⟨x0, x1, x2, x3, x4, v0, v1, f0, f1, f2⟩ := HG.out _ HW2.out; clear hb)))
      have BR := (Below.drew HW6.out)
      go_region_held3 (fun w' => w'.cell? ⟨w.heap.size, 0, none⟩ = some (.int .u8 X.k) ∧ w'.cell? ⟨w.heap.size, 1, none⟩ = some (.string X.r) ∧ w'.cell? ⟨w.heap.size, 2, none⟩ = some (.string X.n) ∧ w'.cell? ⟨w.heap.size, 3, none⟩ = some (.int .i64 X.d) ∧ w'.cell? ⟨w.heap.size, 4, none⟩ = some (.slice X.A X.sub.length X.c) ∧ w'.cell? ⟨w.heap.size + 1, 0, none⟩ = some (.slice E.fA E.fs.length E.fc) ∧ w'.cell? ⟨w.heap.size + 1, 1, none⟩ = some (.slice E.cA E.cs.length E.cc))
        (((try go_split_ands); (and_intros) <;> first | assumption | (go_keep; done)))
        (first
          | (go_split_ands; go_at_call 43; refine (Hfx.out _ BR).mono ?_; rintro u w7 ⟨T, rfl, hi, he, -, hb⟩; have B7 := btO BR hb; have HT7 := Lib.hid hi; have HV7 := Lib.hid (Hvf.out hd0 hd1 T he); obtain ⟨i_x0, i_x1, i_x2, i_x3, i_x4, i_v0, i_v1, i_f0, i_f1, i_f2⟩ := HG.out _ B7; clear hi he hb)
          | (go_split_ands; go_at_call 17; refine (HV7.out _ B7 HT7.out).mono ?_; rintro u w8 ⟨rfl, hb⟩; have B8 := btO B7 hb; obtain ⟨j_x0, j_x1, j_x2, j_x3, j_x4, j_v0, j_v1, j_f0, j_f1, j_f2⟩ := HG.out _ B8; clear hb))
      all_goals (
        have HW8 := Lib.hid B8
        go_wp2_with (first
            | (go_at_call 17; have _t := HW12; ((with_reducible refine (Hv2.out (by first | exact trivial | rfl) (by first | exact trivial | rfl) _ _ _ _ _ HW12.out HI12.out).mono ?_); rintro u w13 ⟨rfl, hb⟩; have HW13 := Lib.hid (btO HW12.out hb); clear hb))
            | (go_at_call 44; have _t := HW11; ((with_reducible refine (Hmen.out _ (btO HW11.out (belO _ _))).mono ?_); rintro u w12 ⟨rfl, hb⟩; clear x0 x1 x2 x3 x4 v0 v1 f0 f1 f2 p0 p1; have HW12 := Lib.hid (btO (btO HW11.out (belO w11 (.cells #[.slice aA aL.length ac, .slice aB aC.length ak] 38))) hb); have HI12 := Lib.hid ((HI11.out.below (belO w11 (.cells #[.slice aA aL.length ac, .slice aB aC.length ak] 38))).below hb); obtain ⟨x0, x1, x2, x3, x4, v0, v1, f0, f1, f2⟩ := HG.out _ HW12.out; have p0 := cellO hb (row_cell (j := 0) HR.out rfl); have p1 := cellO hb (row_cell (j := 1) HR.out rfl); clear hb))
            | (go_at_call 19; have _t := HW8; ((with_reducible refine (Hput.out _ HW8.out).mono ?_); rintro u w11 ⟨aA, ac, aB, ak, rfl, hi, hk, hk2, hb⟩; have HW11 := Lib.hid (btO HW8.out hb); have HI11 := Lib.hid hi; have HR := Lib.hid (heap_alloc_new w11 (.cells #[.slice aA aL.length ac, .slice aB aC.length ak] 38)); obtain ⟨x0, x1, x2, x3, x4, v0, v1, f0, f1, f2⟩ := HG.out _ (btO HW11.out (belO w11 (.cells #[.slice aA aL.length ac, .slice aB aC.length ak] 38))); have p0 := row_cell (j := 0) HR.out rfl; have p1 := row_cell (j := 1) HR.out rfl; clear hi hk hk2 hb)))
        go_ret
        exact ⟨rfl, btO HB.out (by first | exact HW13.out | exact HW12.out | exact btO HW11.out (belO _ _))⟩))
end Go.Proofs.YtnomccgdajcfiaaGreatDoor
/- The law ObservableLocal. -/
namespace Go.Proofs.YtnomccgdajcfiaaGreatDoor
open Go Go.RowKit
theorem putL_inc {fs : List Fx} {cs : List Cx} {f : Fx} (h : putFE fs cs f = 0) : envE fs cs = 0 ∧ Inc Fx.key fs := ⟨(putFE_cases h).1, (inc_of (envE_zero (putFE_cases h).1).2.2.1).1⟩
theorem valN_put {t : Ex} {day : Int} {fs : List Fx} {cs : List Cx} {f : Fx} (h : putFE fs cs f = 0) (hm : t.men f.1 = false) : valN t day (putFL fs cs f) (putFC fs cs f) = valN t day fs cs := by
  obtain ⟨h1, h2⟩ := putL_inc h
  have h3 := put_env h
  obtain ⟨p1, p2⟩ := put_is h
  have h4 : askE t 1 day (putFL fs cs f) (putFC fs cs f) = askE t 1 day fs cs := by
    unfold askE
    rw [h1, h3]
  unfold valN
  rw [h4, p1, Ex.ev_other h2 f day t hm]
section
variable (X : Ex) (E : Ev) (fn fv : ByteArray) (fd day : Int) (w : World) (hX : X.In w) (hE : E.In w) (kF : CapR E.fA E.fs.length E.fc) (kC : CapR E.cA E.cs.length E.cc) (hv : VarR w)
  (z1 : fn.size ≤ 140737488351232) (z2 : fv.size ≤ 140737488351232) (d0 : -9223372036854775808 ≤ day) (d1 : day ≤ 9223372036854775807)
include hX hE kF kC hv z1 z2 d0 d1
theorem local_law8 : Calls Tryz.prog 8 #[X.val, .int .i64 day, E.val, .agg #[.string fn, .int .i64 fd, .string fv]] w (BoolRO true w) := by
  have hal : ∀ W, Below w.heap.size w W → Calls Tryz.prog 23 #[] W (BoolRO true W) := fun W hW => alive_any8 W (hv.below hW)
  have hgx : ∀ W, Below w.heap.size w W → Calls Tryz.prog 34 #[X.val] W (BoolRO X.grt W) := fun W hW => great_anyO X W (hX.below hW)
  have hgv : ∀ W, Below w.heap.size w W → Calls Tryz.prog 24 #[E.val] W (BoolRO E.grt W) := fun W hW => greatEnv_any E W (hE.below hW)
  have no : ∀ {P : Prop}, False → P := fun h => h.elim
  cases gx : X.grt
  · obtain ⟨x1, -, x3⟩ := Ex.grt_not gx
    have hnx : True → ∀ W, Below w.heap.size w W → Calls Tryz.prog 14 #[X.val] W (BoolRO (X.isB 1) W) := fun _ W hW => pnumber_any X W (hX.below hW) x3 (hv.below hW)
    rw [gx] at hgx
    cases gv : E.grt
    · rw [gv] at hgv
      by_cases q1 : 1000 < (fn.size : Int)
      · exact local_out True X E fn fv fd day false false _ w z1 z2 hal hgx hgv hnx (.inr (.inr (.inl (⟨rfl, rfl, q1⟩))))
      by_cases q2 : 3000 < (fv.size : Int)
      · exact local_out True X E fn fv fd day false false _ w z1 z2 hal hgx hgv hnx (.inr (.inr (.inr (.inl (⟨rfl, rfl, q1, q2⟩)))))
      cases n1 : X.isB 1
      · exact local_out True X E fn fv fd day false false _ w z1 z2 hal hgx hgv hnx (.inr (.inr (.inr (.inr (⟨trivial, rfl, rfl, q1, q2, n1⟩)))))
      rw [n1] at hnx
      obtain ⟨-, -, s1, s2⟩ := Ev.grt_not gv
      have hsf : ∀ f ∈ E.fs, f.2.2.size ≤ 1048576 := fun f hf => by have := (s1 f hf).2; omega
      have hF : ShF E.fs := fun f hf => ⟨by have := (s1 f hf).1; omega, by have := (s1 f hf).2; omega⟩
      have hC : ShC E.cs := fun c hc => ⟨by have := (s2 c hc).1; omega, by have := (s2 c hc).2; omega⟩
      have hvx : ∀ W, Below w.heap.size w W → Calls Tryz.prog 17 #[X.val, .int .i64 day, E.val] W (StE (valN X day E.fs E.cs).1 (valN X day E.fs E.cs).2 W) := fun W hW => pvalue_any X E day W (hX.below hW) ⟨hE.below hW, hv.below hW⟩ x1 x3 hsf
      have hfx : ∀ W, Below w.heap.size w W → Calls Tryz.prog 43 #[X.val, .int .i64 day] W (FixR day X W) := fun W hW => fixed_any8 day d0 d1 X W (hX.below hW) x1
      have hvf : 0 ≤ day → day ≤ 99999 → ∀ T' : Ex, T'.er = X.fx day → ∀ W, Below w.heap.size w W → T'.In W → Calls Tryz.prog 17 #[T'.val, .int .i64 day, E.val] W (StE (valN X day E.fs E.cs).1 (valN X day E.fs E.cs).2 W) := fun h0 h1 T' he W hW hT => by
        rw [← valN_fx E.fs E.cs he (by unfold dayO; rw [decide_eq_true h0, decide_eq_true h1]; rfl) n1]
        exact pvalue_any T' E day W hT ⟨hE.below hW, hv.below hW⟩ (by rw [er_siz he]; exact x1) (by rw [er_byt he]; exact x3) hsf
      have hput : ∀ W, Below w.heap.size w W → Calls Tryz.prog 19 #[E.val, .agg #[.string fn, .int .i64 fd, .string fv]] W (EvP (putFL E.fs E.cs (fn, fd, fv)) (putFC E.fs E.cs (fn, fd, fv)) (putFE E.fs E.cs (fn, fd, fv)) W) := fun W hW => call_put hF hC fn fv fd z1 (by omega) W (hv.below hW) _ _ _ _ ⟨hE.below hW, kF, kC⟩
      have hmen : ∀ W, Below w.heap.size w W → Calls Tryz.prog 44 #[X.val, .string fn] W (BoolRO (X.men fn) W) := fun W hW => mentions_any fn X W (hX.below hW)
      have hv2 : (putFE E.fs E.cs (fn, fd, fv)) = 0 → X.men fn = false → ∀ A c A2 c2 W, Below w.heap.size w W → Ev.In W ⟨A, (putFL E.fs E.cs (fn, fd, fv)), c, A2, (putFC E.fs E.cs (fn, fd, fv)), c2⟩ → Calls Tryz.prog 17 #[X.val, .int .i64 day, .agg #[.slice A (putFL E.fs E.cs (fn, fd, fv)).length c, .slice A2 (putFC E.fs E.cs (fn, fd, fv)).length c2]] W (StE (valN X day E.fs E.cs).1 (valN X day E.fs E.cs).2 W) := fun h0 h1 A c A2 c2 W hW hI => by
        have := pvalue_any X ⟨A, _, c, A2, _, c2⟩ day W (hX.below hW) ⟨hI, hv.below hW⟩ x1 x3 (fun f hf => (hF.put (cs := E.cs) (f := (fn, fd, fv)) z1 (by show fv.size ≤ _; omega) f hf).2)
        rw [show valN X day (putFL E.fs E.cs (fn, fd, fv)) (putFC E.fs E.cs (fn, fd, fv)) = valN X day E.fs E.cs from valN_put h0 h1] at this
        exact this
      have key : (((putFE E.fs E.cs (fn, fd, fv)) != 0) = true ∧ True) ∨ ((putFE E.fs E.cs (fn, fd, fv)) = 0 ∧ X.men fn = true) ∨ ((putFE E.fs E.cs (fn, fd, fv)) = 0 ∧ X.men fn = false) := by
        by_cases h : (putFE E.fs E.cs (fn, fd, fv)) = 0
        · cases hm : X.men fn
          · exact .inr (.inr ⟨h, rfl⟩)
          · exact .inr (.inl ⟨h, rfl⟩)
        · exact .inl ⟨ne_decO h, trivial⟩
      by_cases h0 : 0 ≤ day
      · by_cases h1 : day ≤ 99999
        · exact local_day X E fn fv fd day _ _ _ _ _ _ w z1 z2 hal hgx hgv (hnx trivial) hvx hfx hvf hput hmen hv2 q1 q2 h0 h1 key
        · exact local_far X E fn fv fd day _ _ _ _ _ _ w z1 z2 hal hgx hgv (hnx trivial) hvx hfx hvf hput hmen hv2 q1 q2 (.inr ⟨h0, h1⟩) key
      · exact local_far X E fn fv fd day _ _ _ _ _ _ w z1 z2 hal hgx hgv (hnx trivial) hvx hfx hvf hput hmen hv2 q1 q2 (.inl h0) key
    · rw [gv] at hgv
      exact local_out True X E fn fv fd day false true _ w z1 z2 hal hgx hgv hnx (.inr (.inl (⟨rfl, rfl⟩)))
  · rw [gx] at hgx
    exact local_out False X E fn fv fd day true _ false w z1 z2 hal hgx hgv no (.inl (⟨rfl, trivial⟩))
end
end Go.Proofs.YtnomccgdajcfiaaGreatDoor

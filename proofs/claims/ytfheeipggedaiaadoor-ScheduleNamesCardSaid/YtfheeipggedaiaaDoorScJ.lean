/- Layer 6: the laws' helpers gives, two, alive, over what the program's Dates answers. -/
import Derived.Test.YtfheeipggedaiaaDoorScG
namespace Go.Proofs.YtfheeipggedaiaaDoor
open Go Go.RowKit

def BolS (b : Bool) (w : World) (e : Ending) (w' : World) : Prop := e = .returned (.bool b) ∧ Below w.heap.size w w'
set_option maxRecDepth 100000 in
set_option maxHeartbeats 1600000 in
theorem sgives_walk (st en mo : Int) (bk la : Bool) (sb ro we : Int) (A : Option Addr) (c : Nat) (hs : List Int) (L : List Int) (B : Option Addr) (c' : Nat) (hL : L.length ≤ 1000) (w : World) (hB : HsA w B L)
    (H : ∀ W, Below w.heap.size w W → Calls Tryd.prog 11 #[.agg #[.int .i64 st, .int .i64 en, .int .i64 mo, .bool bk, .bool la, .int .u8 sb, .int .u8 ro, .int .u8 we, .slice A hs.length c]] W (DtsR L 0 W)) :
    Calls Tryd.prog 10 #[.agg #[.int .i64 st, .int .i64 en, .int .i64 mo, .bool bk, .bool la, .int .u8 sb, .int .u8 ro, .int .u8 we, .slice A hs.length c], .slice B L.length c'] w (BolS true w) := by
  have J := Lib.hid H
  have HB := Lib.hid hB
  have HL := Lib.hid hL
  clear H hB hL
  go_enter Tryd.func10, Tryd.ntmps10
  go_wp2_with (first
    | (go_at_call 11; ((with_reducible refine (J.out _ (belE_c _ _)).mono ?_); rintro x w1 ⟨A1, c1, rfl, h1, -, -, -, b⟩; have B1 := Lib.hid (btS (belE_c _ _) b); have K1 := Lib.hid h1; clear b h1))
    | (go_at_call 21; ((with_reducible refine (sameInts_any A1 B c1 c' L L true (by simp) (by have := HL.out; omega) _ K1.out (HB.out.below B1.out)).mono ?_); rintro x w2 ⟨rfl, b⟩; have B2 := Lib.hid (btS B1.out b); clear b)))
  go_ret
  exact ⟨rfl, B2.out⟩
def TwoS (w : World) (e : Ending) (w' : World) : Prop := e = .returned (.agg #[.int .i64 45304, .int .i64 45472, .int .i64 2, .bool false, .bool false, .int .u8 0, .int .u8 0, .int .u8 0, .slice none 0 0]) ∧ Below w.heap.size w w'
set_option maxRecDepth 100000 in
set_option maxHeartbeats 1600000 in
theorem two_any (w : World) : Calls Tryd.prog 13 #[] w (TwoS w) := by
  go_enter Tryd.func13, Tryd.ntmps13
  go_wp2
  refine bodyPost_ret (results_cell_row rfl _ _ w.heap.size 27 _ (0, 0) _ rfl (heap_alloc_new w _) Tryd.underlying27 (by kernel_rfl) (by kernel_rfl)) rfl ⟨rfl, belE_c _ _⟩

/-- The three descriptions that alive lays. -/
abbrev W3s (w : World) : World := ((w.alloc (.cells #[.int .i64 45304, .int .i64 45472, .int .i64 2, .bool false, .bool false, .int .u8 1, .int .u8 0, .int .u8 0, .slice none 0 0] 27)).alloc (.cells #[.int .i64 45304, .int .i64 45472, .int .i64 2, .bool true, .bool false, .int .u8 0, .int .u8 0, .int .u8 0, .slice none 0 0] 27)).alloc (.cells #[.int .i64 45304, .int .i64 45472, .int .i64 2, .bool true, .bool false, .int .u8 1, .int .u8 0, .int .u8 0, .slice none 0 0] 27)
theorem hs_at (w : World) (xs : List Int) (t : TypeId) (b : Nat) (hb : b = w.heap.size) : HsA (w.alloc (.cells (xs.map encS).toArray t)) (some ⟨b, 0, none⟩) xs := by
  subst hb
  refine .inr ⟨w.heap.size, 0, rfl, by simp, fun j hj => ?_⟩
  rw [Nat.zero_add]
  refine box_cell w _ t j ?_
  simp [encS, List.getD_eq_getElem?_getD, List.getElem?_eq_getElem hj]
theorem bx1 {w w' : World} (h : Below (W3s w).heap.size (W3s w) w') : w'.cell? ⟨w.heap.size, 0, none⟩ = some (.int .i64 45304) ∧ w'.cell? ⟨w.heap.size, 1, none⟩ = some (.int .i64 45472) ∧ w'.cell? ⟨w.heap.size, 2, none⟩ = some (.int .i64 2) ∧ w'.cell? ⟨w.heap.size, 3, none⟩ = some (.bool false) ∧ w'.cell? ⟨w.heap.size, 4, none⟩ = some (.bool false) ∧ w'.cell? ⟨w.heap.size, 5, none⟩ = some (.int .u8 1) ∧ w'.cell? ⟨w.heap.size, 6, none⟩ = some (.int .u8 0) ∧ w'.cell? ⟨w.heap.size, 7, none⟩ = some (.int .u8 0) ∧ w'.cell? ⟨w.heap.size, 8, none⟩ = some (.slice none 0 0) := by
  exact row9S (w := w) (btS (belE_c _ _) (btS (belE_c _ _) h))
theorem bx2 {w w' : World} (h : Below (W3s w).heap.size (W3s w) w') : w'.cell? ⟨w.heap.size + 1, 0, none⟩ = some (.int .i64 45304) ∧ w'.cell? ⟨w.heap.size + 1, 1, none⟩ = some (.int .i64 45472) ∧ w'.cell? ⟨w.heap.size + 1, 2, none⟩ = some (.int .i64 2) ∧ w'.cell? ⟨w.heap.size + 1, 3, none⟩ = some (.bool true) ∧ w'.cell? ⟨w.heap.size + 1, 4, none⟩ = some (.bool false) ∧ w'.cell? ⟨w.heap.size + 1, 5, none⟩ = some (.int .u8 0) ∧ w'.cell? ⟨w.heap.size + 1, 6, none⟩ = some (.int .u8 0) ∧ w'.cell? ⟨w.heap.size + 1, 7, none⟩ = some (.int .u8 0) ∧ w'.cell? ⟨w.heap.size + 1, 8, none⟩ = some (.slice none 0 0) := by
  have g := row9S (w := w.alloc (.cells #[.int .i64 45304, .int .i64 45472, .int .i64 2, .bool false, .bool false, .int .u8 1, .int .u8 0, .int .u8 0, .slice none 0 0] 27)) (btS (belE_c _ _) h)
  simpa using g
theorem bx3 {w w' : World} (h : Below (W3s w).heap.size (W3s w) w') : w'.cell? ⟨w.heap.size + 1 + 1, 0, none⟩ = some (.int .i64 45304) ∧ w'.cell? ⟨w.heap.size + 1 + 1, 1, none⟩ = some (.int .i64 45472) ∧ w'.cell? ⟨w.heap.size + 1 + 1, 2, none⟩ = some (.int .i64 2) ∧ w'.cell? ⟨w.heap.size + 1 + 1, 3, none⟩ = some (.bool true) ∧ w'.cell? ⟨w.heap.size + 1 + 1, 4, none⟩ = some (.bool false) ∧ w'.cell? ⟨w.heap.size + 1 + 1, 5, none⟩ = some (.int .u8 1) ∧ w'.cell? ⟨w.heap.size + 1 + 1, 6, none⟩ = some (.int .u8 0) ∧ w'.cell? ⟨w.heap.size + 1 + 1, 7, none⟩ = some (.int .u8 0) ∧ w'.cell? ⟨w.heap.size + 1 + 1, 8, none⟩ = some (.slice none 0 0) := by
  have g := row9S (w := (w.alloc (.cells #[.int .i64 45304, .int .i64 45472, .int .i64 2, .bool false, .bool false, .int .u8 1, .int .u8 0, .int .u8 0, .slice none 0 0] 27)).alloc (.cells #[.int .i64 45304, .int .i64 45472, .int .i64 2, .bool true, .bool false, .int .u8 0, .int .u8 0, .int .u8 0, .slice none 0 0] 27)) h
  simpa using g

theorem sg_1 (w W : World) (b : Nat) (hb : b = W.heap.size) (hW : Below w.heap.size w W) (H1 : ∀ W, Below w.heap.size w W → Calls Tryd.prog 11 #[.agg #[.int .i64 45320, .int .i64 45502, .int .i64 1, .bool false, .bool true, .int .u8 0, .int .u8 0, .int .u8 0, .slice none 0 0]] W (DtsR [45320, 45349, 45380, 45410, 45441, 45471, 45502] 0 W)) : Calls Tryd.prog 10 #[.agg #[.int .i64 45320, .int .i64 45502, .int .i64 1, .bool false, .bool true, .int .u8 0, .int .u8 0, .int .u8 0, .slice none 0 0], .slice (some ⟨b, 0, none⟩) 7 7] (W.alloc (.cells #[.int .i64 45320, .int .i64 45349, .int .i64 45380, .int .i64 45410, .int .i64 45441, .int .i64 45471, .int .i64 45502] 3)) (BolS true (W.alloc (.cells #[.int .i64 45320, .int .i64 45349, .int .i64 45380, .int .i64 45410, .int .i64 45441, .int .i64 45471, .int .i64 45502] 3))) :=
  sgives_walk 45320 45502 1 false true 0 0 0 none 0 [] [45320, 45349, 45380, 45410, 45441, 45471, 45502] (some ⟨b, 0, none⟩) 7 (by decide) _ (hs_at W [45320, 45349, 45380, 45410, 45441, 45471, 45502] 3 b hb) (fun W2 h2 => H1 W2 (btS (btS hW (belE_c _ _)) h2))
theorem sg_2 (w W : World) (b : Nat) (hb : b = W.heap.size) (hW : Below w.heap.size w W) (H2 : ∀ W, Below w.heap.size w W → Calls Tryd.prog 11 #[.agg #[.int .i64 45304, .int .i64 45472, .int .i64 2, .bool false, .bool false, .int .u8 0, .int .u8 0, .int .u8 0, .slice none 0 0]] W (DtsR [45304, 45364, 45425, 45472] 0 W)) : Calls Tryd.prog 10 #[.agg #[.int .i64 45304, .int .i64 45472, .int .i64 2, .bool false, .bool false, .int .u8 0, .int .u8 0, .int .u8 0, .slice none 0 0], .slice (some ⟨b, 0, none⟩) 4 4] (W.alloc (.cells #[.int .i64 45304, .int .i64 45364, .int .i64 45425, .int .i64 45472] 3)) (BolS true (W.alloc (.cells #[.int .i64 45304, .int .i64 45364, .int .i64 45425, .int .i64 45472] 3))) :=
  sgives_walk 45304 45472 2 false false 0 0 0 none 0 [] [45304, 45364, 45425, 45472] (some ⟨b, 0, none⟩) 4 (by decide) _ (hs_at W [45304, 45364, 45425, 45472] 3 b hb) (fun W2 h2 => H2 W2 (btS (btS hW (belE_c _ _)) h2))
theorem sg_3 (w W : World) (b : Nat) (hb : b = W.heap.size) (hW : Below w.heap.size w W) (H3 : ∀ W, Below w.heap.size w W → Calls Tryd.prog 11 #[.agg #[.int .i64 45304, .int .i64 45472, .int .i64 2, .bool false, .bool false, .int .u8 1, .int .u8 0, .int .u8 0, .slice none 0 0]] W (DtsR [45304, 45364, 45472] 0 W)) : Calls Tryd.prog 10 #[.agg #[.int .i64 45304, .int .i64 45472, .int .i64 2, .bool false, .bool false, .int .u8 1, .int .u8 0, .int .u8 0, .slice none 0 0], .slice (some ⟨b, 0, none⟩) 3 3] (W.alloc (.cells #[.int .i64 45304, .int .i64 45364, .int .i64 45472] 3)) (BolS true (W.alloc (.cells #[.int .i64 45304, .int .i64 45364, .int .i64 45472] 3))) :=
  sgives_walk 45304 45472 2 false false 1 0 0 none 0 [] [45304, 45364, 45472] (some ⟨b, 0, none⟩) 3 (by decide) _ (hs_at W [45304, 45364, 45472] 3 b hb) (fun W2 h2 => H3 W2 (btS (btS hW (belE_c _ _)) h2))
theorem sg_4 (w W : World) (b : Nat) (hb : b = W.heap.size) (hW : Below w.heap.size w W) (H4 : ∀ W, Below w.heap.size w W → Calls Tryd.prog 11 #[.agg #[.int .i64 45304, .int .i64 45472, .int .i64 2, .bool true, .bool false, .int .u8 0, .int .u8 0, .int .u8 0, .slice none 0 0]] W (DtsR [45304, 45350, 45411, 45472] 0 W)) : Calls Tryd.prog 10 #[.agg #[.int .i64 45304, .int .i64 45472, .int .i64 2, .bool true, .bool false, .int .u8 0, .int .u8 0, .int .u8 0, .slice none 0 0], .slice (some ⟨b, 0, none⟩) 4 4] (W.alloc (.cells #[.int .i64 45304, .int .i64 45350, .int .i64 45411, .int .i64 45472] 3)) (BolS true (W.alloc (.cells #[.int .i64 45304, .int .i64 45350, .int .i64 45411, .int .i64 45472] 3))) :=
  sgives_walk 45304 45472 2 true false 0 0 0 none 0 [] [45304, 45350, 45411, 45472] (some ⟨b, 0, none⟩) 4 (by decide) _ (hs_at W [45304, 45350, 45411, 45472] 3 b hb) (fun W2 h2 => H4 W2 (btS (btS hW (belE_c _ _)) h2))
theorem sg_5 (w W : World) (b : Nat) (hb : b = W.heap.size) (hW : Below w.heap.size w W) (H5 : ∀ W, Below w.heap.size w W → Calls Tryd.prog 11 #[.agg #[.int .i64 45304, .int .i64 45472, .int .i64 2, .bool true, .bool false, .int .u8 1, .int .u8 0, .int .u8 0, .slice none 0 0]] W (DtsR [45304, 45411, 45472] 0 W)) : Calls Tryd.prog 10 #[.agg #[.int .i64 45304, .int .i64 45472, .int .i64 2, .bool true, .bool false, .int .u8 1, .int .u8 0, .int .u8 0, .slice none 0 0], .slice (some ⟨b, 0, none⟩) 3 3] (W.alloc (.cells #[.int .i64 45304, .int .i64 45411, .int .i64 45472] 3)) (BolS true (W.alloc (.cells #[.int .i64 45304, .int .i64 45411, .int .i64 45472] 3))) :=
  sgives_walk 45304 45472 2 true false 1 0 0 none 0 [] [45304, 45411, 45472] (some ⟨b, 0, none⟩) 3 (by decide) _ (hs_at W [45304, 45411, 45472] 3 b hb) (fun W2 h2 => H5 W2 (btS (btS hW (belE_c _ _)) h2))
set_option maxRecDepth 100000 in
set_option maxHeartbeats 6400000 in
theorem alive6 (w : World)
    (H1 : ∀ W, Below w.heap.size w W → Calls Tryd.prog 11 #[.agg #[.int .i64 45320, .int .i64 45502, .int .i64 1, .bool false, .bool true, .int .u8 0, .int .u8 0, .int .u8 0, .slice none 0 0]] W (DtsR [45320, 45349, 45380, 45410, 45441, 45471, 45502] 0 W))
    (H2 : ∀ W, Below w.heap.size w W → Calls Tryd.prog 11 #[.agg #[.int .i64 45304, .int .i64 45472, .int .i64 2, .bool false, .bool false, .int .u8 0, .int .u8 0, .int .u8 0, .slice none 0 0]] W (DtsR [45304, 45364, 45425, 45472] 0 W))
    (H3 : ∀ W, Below w.heap.size w W → Calls Tryd.prog 11 #[.agg #[.int .i64 45304, .int .i64 45472, .int .i64 2, .bool false, .bool false, .int .u8 1, .int .u8 0, .int .u8 0, .slice none 0 0]] W (DtsR [45304, 45364, 45472] 0 W))
    (H4 : ∀ W, Below w.heap.size w W → Calls Tryd.prog 11 #[.agg #[.int .i64 45304, .int .i64 45472, .int .i64 2, .bool true, .bool false, .int .u8 0, .int .u8 0, .int .u8 0, .slice none 0 0]] W (DtsR [45304, 45350, 45411, 45472] 0 W))
    (H5 : ∀ W, Below w.heap.size w W → Calls Tryd.prog 11 #[.agg #[.int .i64 45304, .int .i64 45472, .int .i64 2, .bool true, .bool false, .int .u8 1, .int .u8 0, .int .u8 0, .slice none 0 0]] W (DtsR [45304, 45411, 45472] 0 W)) :
    Calls Tryd.prog 17 #[] w (BolS true w) := by
  have J1 := Lib.hid H1
  have J2 := Lib.hid H2
  have J3 := Lib.hid H3
  have J4 := Lib.hid H4
  have J5 := Lib.hid H5
  clear H1 H2 H3 H4 H5
  have HT := Lib.hid two_any
  go_enter Tryd.func17, Tryd.ntmps17
  go_wp2_with (first
    | (go_at_call 13; ((with_reducible refine (HT.out w).mono ?_); rintro x w1 ⟨rfl, b⟩; have B1 := Lib.hid b; clear b))
    | (go_at_call 13; ((with_reducible refine (HT.out w1).mono ?_); rintro x w2 ⟨rfl, b⟩; have B2 := Lib.hid (btS B1.out b); clear b))
    | (go_at_call 13; ((with_reducible refine (HT.out w3).mono ?_); rintro x w4 ⟨rfl, b⟩; have B4 := Lib.hid (btS B3.out b); have D4 := Lib.hid (btS D3.out b); clear b))
    | (go_at_call 10; ((with_reducible refine (sg_1 w _ _ (by simp) (btS (btS (btS B2.out (belE_c _ _)) (belE_c _ _)) (belE_c _ _)) J1.out).mono ?_); rintro x w3 ⟨rfl, b⟩; have D3 := Lib.hid (btS (belE_c _ _) b); have B3 := Lib.hid (btS (btS (btS (btS B2.out (belE_c _ _)) (belE_c _ _)) (belE_c _ _)) D3.out); clear b))
    | (go_at_call 10; ((with_reducible refine (sg_2 w w4 _ rfl B4.out J2.out).mono ?_); rintro x w5 ⟨rfl, b⟩; have B5 := Lib.hid (btS (btS B4.out (belE_c _ _)) b); have D5 := Lib.hid (btS (btS D4.out (belE_c _ _)) b); obtain ⟨p0, p1, p2, p3, p4, p5, p6, p7, p8⟩ := bx1 D5.out; clear b))
    | (go_at_call 10; ((with_reducible refine (sg_3 w w5 _ rfl B5.out J3.out).mono ?_); rintro x w6 ⟨rfl, b⟩; have B6 := Lib.hid (btS (btS B5.out (belE_c _ _)) b); have D6 := Lib.hid (btS (btS D5.out (belE_c _ _)) b); obtain ⟨q0, q1, q2, q3, q4, q5, q6, q7, q8⟩ := bx2 D6.out; clear b))
    | (go_at_call 10; ((with_reducible refine (sg_4 w w6 _ rfl B6.out J4.out).mono ?_); rintro x w7 ⟨rfl, b⟩; have B7 := Lib.hid (btS (btS B6.out (belE_c _ _)) b); have D7 := Lib.hid (btS (btS D6.out (belE_c _ _)) b); obtain ⟨r0, r1, r2, r3, r4, r5, r6, r7, r8⟩ := bx3 D7.out; clear b))
    | (go_at_call 10; ((with_reducible refine (sg_5 w w7 _ rfl B7.out J5.out).mono ?_); rintro x w8 ⟨rfl, b⟩; have B8 := Lib.hid (btS (btS B7.out (belE_c _ _)) b); clear b)))
  go_ret
  exact ⟨rfl, B8.out⟩
end Go.Proofs.YtfheeipggedaiaaDoor

/- The walk of the law DaycountWhole. -/
import Derived.Test.YtpgfadkkfofhcaaGreatDoorDcJ
import Derived.Test.YtpgfadkkfofhcaaGreatDoorDcK
namespace Go.Proofs.YtpgfadkkfofhcaaGreatDoor
open Go Go.RowKit

def P4W (y m d c : Int) (w : World) (e : Ending) (w' : World) : Prop := e = .returned (.tuple #[.int .i64 y, .int .i64 m, .int .i64 d, .int .i64 c]) ∧ Below w.heap.size w w'
theorem below_eqE {w w' : World} (h : w = w') : Below w.heap.size w w' := by subst h; exact Below.refl _ _
theorem parts_w {y m d n : Int} (h : IsDate y m d n) (hn : n ≤ 99999) (W : World) (hW : VarF W) : Calls Tryz.prog 17 #[.int .i64 n] W (P4W y m d 0 W) :=
  (parts4_in y m d n h hn W hW.d).mono fun _ _ ⟨h1, h2⟩ => ⟨h1, below_eqE h2⟩
theorem of_w (y : Int) (W : World) (hW : VarF W) : Calls Tryz.prog 15 #[.int .i64 y, .int .i64 1, .int .i64 1] W (DysR (ofV y 1 1) (ofE y 1 1) W) :=
  (of_anyD y 1 1 W hW.d).mono fun _ _ ⟨h1, h2⟩ => ⟨h1, below_eqE h2⟩

set_option maxRecDepth 100000 in
set_option maxHeartbeats 3200000 in
theorem dwhole_Ga (a b n k : Int) (u v : Int) (S : ByteArray) (y m d t h : Int) (w : World) (hv : VarF w)
    (a0 : 1900 ≤ a) (a1 : a ≤ 2173) (b0 : 1900 ≤ b) (b1 : b ≤ 2173)
    (H1 : ∀ W, VarF W → Calls Tryz.prog 12 #[] W (BolR true W))
    (H2 : ∀ W, VarF W → Calls Tryz.prog 15 #[.int .i64 a, .int .i64 1, .int .i64 1] W (DysR u 0 W))
    (H3 : ∀ W, VarF W → Calls Tryz.prog 15 #[.int .i64 b, .int .i64 1, .int .i64 1] W (DysR v 0 W))
    (H4 : ∀ W, VarF W → Calls Tryz.prog 16 #[.int .i64 (b - a)] W (StrR S W))
    (H5 : ∀ W, VarF W → Calls Tryz.prog 11 #[.int .u8 3, .int .i64 u, .int .i64 v, .string S] W (BolR true W))
    (H6 : ∀ W, VarF W → Calls Tryz.prog 17 #[.int .i64 n] W (P4W y m d 2 W))
    (H7 : ∀ W, VarF W → Calls Tryz.prog 18 #[.int .i64 n, .int .i64 k, .bool false] W (DysR t h W)) :
    Calls Tryz.prog 7 #[.int .i64 a, .int .i64 b, .int .i64 n, .int .i64 k] w fun e w' => e = .returned (.bool true) ∧ Below w.heap.size w w' := by
  have HV := Lib.hid hv
  have B0 := Lib.hid (Below.refl w.heap.size w)
  have C1 := Lib.hid H1
  have C2 := Lib.hid H2
  have C3 := Lib.hid H3
  have C4 := Lib.hid H4
  have C5 := Lib.hid H5
  have C6 := Lib.hid H6
  have C7 := Lib.hid H7
  clear hv H1 H2 H3 H4 H5 H6 H7
  go_enter Tryz.func7, Tryz.ntmps7
  go_wp2_with (first
    | (go_at_call 12; ((with_reducible refine (C1.out _ (HV.out.below B0.out)).mono ?_); rintro e w1 ⟨rfl, b⟩; have B1 := Lib.hid (btE B0.out b); clear b))
    | (go_at_call 15; ((with_reducible refine (C2.out _ (HV.out.below B1.out)).mono ?_); rintro e w2 ⟨rfl, b⟩; have B2 := Lib.hid (btE B1.out b); clear b))
    | (go_at_call 15; ((with_reducible refine (C3.out _ (HV.out.below B2.out)).mono ?_); rintro e w3 ⟨rfl, b⟩; have B3 := Lib.hid (btE B2.out b); clear b))
    | (go_at_call 16; ((with_reducible refine (C4.out _ (HV.out.below B3.out)).mono ?_); rintro e w4 ⟨rfl, b⟩; have B4 := Lib.hid (btE B3.out b); clear b))
    | (go_at_call 11; ((with_reducible refine (C5.out _ (HV.out.below B4.out)).mono ?_); rintro e w5 ⟨rfl, b⟩; have B5 := Lib.hid (btE B4.out b); clear b))
    | (go_at_call 17; ((with_reducible refine (C6.out _ (HV.out.below B5.out)).mono ?_); rintro e w6 ⟨rfl, b⟩; have B6 := Lib.hid (btE B5.out b); clear b))
    | (go_at_call 18; ((with_reducible refine (C7.out _ (HV.out.below B6.out)).mono ?_); rintro e w7 ⟨rfl, b⟩; have B7 := Lib.hid (btE B6.out b); clear b)))
  go_ret
  exact ⟨ret_boolD (by simp), B7.out⟩
set_option maxRecDepth 100000 in
set_option maxHeartbeats 3200000 in
theorem dwhole_Gb (a b n k : Int) (u v : Int) (S : ByteArray) (y m d t h : Int) (w : World) (hv : VarF w)
    (a0 : 1900 ≤ a) (a1 : a ≤ 2173) (b0 : 1900 ≤ b) (b1 : b ≤ 2173)
    (hh2 : (h != 0) = true)
    (H1 : ∀ W, VarF W → Calls Tryz.prog 12 #[] W (BolR true W))
    (H2 : ∀ W, VarF W → Calls Tryz.prog 15 #[.int .i64 a, .int .i64 1, .int .i64 1] W (DysR u 0 W))
    (H3 : ∀ W, VarF W → Calls Tryz.prog 15 #[.int .i64 b, .int .i64 1, .int .i64 1] W (DysR v 0 W))
    (H4 : ∀ W, VarF W → Calls Tryz.prog 16 #[.int .i64 (b - a)] W (StrR S W))
    (H5 : ∀ W, VarF W → Calls Tryz.prog 11 #[.int .u8 3, .int .i64 u, .int .i64 v, .string S] W (BolR true W))
    (H6 : ∀ W, VarF W → Calls Tryz.prog 17 #[.int .i64 n] W (P4W y m d 0 W))
    (H7 : ∀ W, VarF W → Calls Tryz.prog 18 #[.int .i64 n, .int .i64 k, .bool false] W (DysR t h W)) :
    Calls Tryz.prog 7 #[.int .i64 a, .int .i64 b, .int .i64 n, .int .i64 k] w fun e w' => e = .returned (.bool true) ∧ Below w.heap.size w w' := by
  have HV := Lib.hid hv
  have B0 := Lib.hid (Below.refl w.heap.size w)
  have C1 := Lib.hid H1
  have C2 := Lib.hid H2
  have C3 := Lib.hid H3
  have C4 := Lib.hid H4
  have C5 := Lib.hid H5
  have C6 := Lib.hid H6
  have C7 := Lib.hid H7
  clear hv H1 H2 H3 H4 H5 H6 H7
  go_enter Tryz.func7, Tryz.ntmps7
  go_wp2_with (first
    | (go_at_call 12; ((with_reducible refine (C1.out _ (HV.out.below B0.out)).mono ?_); rintro e w1 ⟨rfl, b⟩; have B1 := Lib.hid (btE B0.out b); clear b))
    | (go_at_call 15; ((with_reducible refine (C2.out _ (HV.out.below B1.out)).mono ?_); rintro e w2 ⟨rfl, b⟩; have B2 := Lib.hid (btE B1.out b); clear b))
    | (go_at_call 15; ((with_reducible refine (C3.out _ (HV.out.below B2.out)).mono ?_); rintro e w3 ⟨rfl, b⟩; have B3 := Lib.hid (btE B2.out b); clear b))
    | (go_at_call 16; ((with_reducible refine (C4.out _ (HV.out.below B3.out)).mono ?_); rintro e w4 ⟨rfl, b⟩; have B4 := Lib.hid (btE B3.out b); clear b))
    | (go_at_call 11; ((with_reducible refine (C5.out _ (HV.out.below B4.out)).mono ?_); rintro e w5 ⟨rfl, b⟩; have B5 := Lib.hid (btE B4.out b); clear b))
    | (go_at_call 17; ((with_reducible refine (C6.out _ (HV.out.below B5.out)).mono ?_); rintro e w6 ⟨rfl, b⟩; have B6 := Lib.hid (btE B5.out b); clear b))
    | (go_at_call 18; ((with_reducible refine (C7.out _ (HV.out.below B6.out)).mono ?_); rintro e w7 ⟨rfl, b⟩; have B7 := Lib.hid (btE B6.out b); clear b)))
  go_ret
  exact ⟨ret_boolD (by simp), B7.out⟩
set_option maxRecDepth 100000 in
set_option maxHeartbeats 3200000 in
theorem dwhole_Gc (a b n k : Int) (u v : Int) (S : ByteArray) (y m d t : Int) (w : World) (hv : VarF w)
    (a0 : 1900 ≤ a) (a1 : a ≤ 2173) (b0 : 1900 ≤ b) (b1 : b ≤ 2173)
    (hd : 28 < d)
    (H1 : ∀ W, VarF W → Calls Tryz.prog 12 #[] W (BolR true W))
    (H2 : ∀ W, VarF W → Calls Tryz.prog 15 #[.int .i64 a, .int .i64 1, .int .i64 1] W (DysR u 0 W))
    (H3 : ∀ W, VarF W → Calls Tryz.prog 15 #[.int .i64 b, .int .i64 1, .int .i64 1] W (DysR v 0 W))
    (H4 : ∀ W, VarF W → Calls Tryz.prog 16 #[.int .i64 (b - a)] W (StrR S W))
    (H5 : ∀ W, VarF W → Calls Tryz.prog 11 #[.int .u8 3, .int .i64 u, .int .i64 v, .string S] W (BolR true W))
    (H6 : ∀ W, VarF W → Calls Tryz.prog 17 #[.int .i64 n] W (P4W y m d 0 W))
    (H7 : ∀ W, VarF W → Calls Tryz.prog 18 #[.int .i64 n, .int .i64 k, .bool false] W (DysR t 0 W)) :
    Calls Tryz.prog 7 #[.int .i64 a, .int .i64 b, .int .i64 n, .int .i64 k] w fun e w' => e = .returned (.bool true) ∧ Below w.heap.size w w' := by
  have HV := Lib.hid hv
  have B0 := Lib.hid (Below.refl w.heap.size w)
  have C1 := Lib.hid H1
  have C2 := Lib.hid H2
  have C3 := Lib.hid H3
  have C4 := Lib.hid H4
  have C5 := Lib.hid H5
  have C6 := Lib.hid H6
  have C7 := Lib.hid H7
  clear hv H1 H2 H3 H4 H5 H6 H7
  go_enter Tryz.func7, Tryz.ntmps7
  go_wp2_with (first
    | (go_at_call 12; ((with_reducible refine (C1.out _ (HV.out.below B0.out)).mono ?_); rintro e w1 ⟨rfl, b⟩; have B1 := Lib.hid (btE B0.out b); clear b))
    | (go_at_call 15; ((with_reducible refine (C2.out _ (HV.out.below B1.out)).mono ?_); rintro e w2 ⟨rfl, b⟩; have B2 := Lib.hid (btE B1.out b); clear b))
    | (go_at_call 15; ((with_reducible refine (C3.out _ (HV.out.below B2.out)).mono ?_); rintro e w3 ⟨rfl, b⟩; have B3 := Lib.hid (btE B2.out b); clear b))
    | (go_at_call 16; ((with_reducible refine (C4.out _ (HV.out.below B3.out)).mono ?_); rintro e w4 ⟨rfl, b⟩; have B4 := Lib.hid (btE B3.out b); clear b))
    | (go_at_call 11; ((with_reducible refine (C5.out _ (HV.out.below B4.out)).mono ?_); rintro e w5 ⟨rfl, b⟩; have B5 := Lib.hid (btE B4.out b); clear b))
    | (go_at_call 17; ((with_reducible refine (C6.out _ (HV.out.below B5.out)).mono ?_); rintro e w6 ⟨rfl, b⟩; have B6 := Lib.hid (btE B5.out b); clear b))
    | (go_at_call 18; ((with_reducible refine (C7.out _ (HV.out.below B6.out)).mono ?_); rintro e w7 ⟨rfl, b⟩; have B7 := Lib.hid (btE B6.out b); clear b)))
  go_ret
  exact ⟨ret_boolD (by simp), B7.out⟩
set_option maxRecDepth 100000 in
set_option maxHeartbeats 3200000 in
theorem dwhole_Gd (a b n k : Int) (u v : Int) (S : ByteArray) (y m d t : Int) (R : ByteArray) (w : World) (hv : VarF w)
    (a0 : 1900 ≤ a) (a1 : a ≤ 2173) (b0 : 1900 ≤ b) (b1 : b ≤ 2173)
    (hd : d ≤ 28)
    (H1 : ∀ W, VarF W → Calls Tryz.prog 12 #[] W (BolR true W))
    (H2 : ∀ W, VarF W → Calls Tryz.prog 15 #[.int .i64 a, .int .i64 1, .int .i64 1] W (DysR u 0 W))
    (H3 : ∀ W, VarF W → Calls Tryz.prog 15 #[.int .i64 b, .int .i64 1, .int .i64 1] W (DysR v 0 W))
    (H4 : ∀ W, VarF W → Calls Tryz.prog 16 #[.int .i64 (b - a)] W (StrR S W))
    (H5 : ∀ W, VarF W → Calls Tryz.prog 11 #[.int .u8 3, .int .i64 u, .int .i64 v, .string S] W (BolR true W))
    (H6 : ∀ W, VarF W → Calls Tryz.prog 17 #[.int .i64 n] W (P4W y m d 0 W))
    (H7 : ∀ W, VarF W → Calls Tryz.prog 18 #[.int .i64 n, .int .i64 k, .bool false] W (DysR t 0 W))
    (H8 : ∀ W, VarF W → Calls Tryz.prog 19 #[.int .i64 k, .int .i64 12] W (StE R 0 W))
    (H9 : ∀ W, VarF W → Calls Tryz.prog 11 #[.int .u8 2, .int .i64 n, .int .i64 t, .string R] W (BolR true W))
    (H10 : ∀ W, VarF W → Calls Tryz.prog 11 #[.int .u8 4, .int .i64 n, .int .i64 t, .string R] W (BolR true W)) :
    Calls Tryz.prog 7 #[.int .i64 a, .int .i64 b, .int .i64 n, .int .i64 k] w fun e w' => e = .returned (.bool true) ∧ Below w.heap.size w w' := by
  have HV := Lib.hid hv
  have B0 := Lib.hid (Below.refl w.heap.size w)
  have C1 := Lib.hid H1
  have C2 := Lib.hid H2
  have C3 := Lib.hid H3
  have C4 := Lib.hid H4
  have C5 := Lib.hid H5
  have C6 := Lib.hid H6
  have C7 := Lib.hid H7
  have C8 := Lib.hid H8
  have C9 := Lib.hid H9
  have C10 := Lib.hid H10
  clear hv H1 H2 H3 H4 H5 H6 H7 H8 H9 H10
  go_enter Tryz.func7, Tryz.ntmps7
  go_wp2_with (first
    | (go_at_call 12; ((with_reducible refine (C1.out _ (HV.out.below B0.out)).mono ?_); rintro e w1 ⟨rfl, b⟩; have B1 := Lib.hid (btE B0.out b); clear b))
    | (go_at_call 15; ((with_reducible refine (C2.out _ (HV.out.below B1.out)).mono ?_); rintro e w2 ⟨rfl, b⟩; have B2 := Lib.hid (btE B1.out b); clear b))
    | (go_at_call 15; ((with_reducible refine (C3.out _ (HV.out.below B2.out)).mono ?_); rintro e w3 ⟨rfl, b⟩; have B3 := Lib.hid (btE B2.out b); clear b))
    | (go_at_call 16; ((with_reducible refine (C4.out _ (HV.out.below B3.out)).mono ?_); rintro e w4 ⟨rfl, b⟩; have B4 := Lib.hid (btE B3.out b); clear b))
    | (go_at_call 11; ((with_reducible refine (C5.out _ (HV.out.below B4.out)).mono ?_); rintro e w5 ⟨rfl, b⟩; have B5 := Lib.hid (btE B4.out b); clear b))
    | (go_at_call 17; ((with_reducible refine (C6.out _ (HV.out.below B5.out)).mono ?_); rintro e w6 ⟨rfl, b⟩; have B6 := Lib.hid (btE B5.out b); clear b))
    | (go_at_call 18; ((with_reducible refine (C7.out _ (HV.out.below B6.out)).mono ?_); rintro e w7 ⟨rfl, b⟩; have B7 := Lib.hid (btE B6.out b); clear b))
    | (go_at_call 19; ((with_reducible refine (C8.out _ (HV.out.below B7.out)).mono ?_); rintro e w8 ⟨rfl, b⟩; have B8 := Lib.hid (btE B7.out b); clear b))
    | (go_at_call 11; ((with_reducible refine (C9.out _ (HV.out.below B8.out)).mono ?_); rintro e w9 ⟨rfl, b⟩; have B9 := Lib.hid (btE B8.out b); clear b))
    | (go_at_call 11; ((with_reducible refine (C10.out _ (HV.out.below B9.out)).mono ?_); rintro e w10 ⟨rfl, b⟩; have B10 := Lib.hid (btE B9.out b); clear b)))
  go_ret
  exact ⟨ret_boolD (by simp), B10.out⟩
set_option maxRecDepth 100000 in
set_option maxHeartbeats 3200000 in
theorem dwhole_Ea (a b n k : Int) (u v f : Int) (y m d t h : Int) (w : World) (hv : VarF w)
    (H1 : ∀ W, VarF W → Calls Tryz.prog 12 #[] W (BolR true W))
    (H2 : ∀ W, VarF W → Calls Tryz.prog 15 #[.int .i64 a, .int .i64 1, .int .i64 1] W (DysR u 2 W))
    (H3 : ∀ W, VarF W → Calls Tryz.prog 15 #[.int .i64 b, .int .i64 1, .int .i64 1] W (DysR v f W))
    (H4 : ∀ W, VarF W → Calls Tryz.prog 17 #[.int .i64 n] W (P4W y m d 2 W))
    (H5 : ∀ W, VarF W → Calls Tryz.prog 18 #[.int .i64 n, .int .i64 k, .bool false] W (DysR t h W)) :
    Calls Tryz.prog 7 #[.int .i64 a, .int .i64 b, .int .i64 n, .int .i64 k] w fun e w' => e = .returned (.bool true) ∧ Below w.heap.size w w' := by
  have HV := Lib.hid hv
  have B0 := Lib.hid (Below.refl w.heap.size w)
  have C1 := Lib.hid H1
  have C2 := Lib.hid H2
  have C3 := Lib.hid H3
  have C4 := Lib.hid H4
  have C5 := Lib.hid H5
  clear hv H1 H2 H3 H4 H5
  go_enter Tryz.func7, Tryz.ntmps7
  go_wp2_with (first
    | (go_at_call 12; ((with_reducible refine (C1.out _ (HV.out.below B0.out)).mono ?_); rintro e w1 ⟨rfl, b⟩; have B1 := Lib.hid (btE B0.out b); clear b))
    | (go_at_call 15; ((with_reducible refine (C2.out _ (HV.out.below B1.out)).mono ?_); rintro e w2 ⟨rfl, b⟩; have B2 := Lib.hid (btE B1.out b); clear b))
    | (go_at_call 15; ((with_reducible refine (C3.out _ (HV.out.below B2.out)).mono ?_); rintro e w3 ⟨rfl, b⟩; have B3 := Lib.hid (btE B2.out b); clear b))
    | (go_at_call 17; ((with_reducible refine (C4.out _ (HV.out.below B3.out)).mono ?_); rintro e w4 ⟨rfl, b⟩; have B4 := Lib.hid (btE B3.out b); clear b))
    | (go_at_call 18; ((with_reducible refine (C5.out _ (HV.out.below B4.out)).mono ?_); rintro e w5 ⟨rfl, b⟩; have B5 := Lib.hid (btE B4.out b); clear b)))
  go_ret
  exact ⟨ret_boolD (by simp), B5.out⟩
set_option maxRecDepth 100000 in
set_option maxHeartbeats 3200000 in
theorem dwhole_Eb (a b n k : Int) (u v f : Int) (y m d t h : Int) (w : World) (hv : VarF w)
    (hh2 : (h != 0) = true)
    (H1 : ∀ W, VarF W → Calls Tryz.prog 12 #[] W (BolR true W))
    (H2 : ∀ W, VarF W → Calls Tryz.prog 15 #[.int .i64 a, .int .i64 1, .int .i64 1] W (DysR u 2 W))
    (H3 : ∀ W, VarF W → Calls Tryz.prog 15 #[.int .i64 b, .int .i64 1, .int .i64 1] W (DysR v f W))
    (H4 : ∀ W, VarF W → Calls Tryz.prog 17 #[.int .i64 n] W (P4W y m d 0 W))
    (H5 : ∀ W, VarF W → Calls Tryz.prog 18 #[.int .i64 n, .int .i64 k, .bool false] W (DysR t h W)) :
    Calls Tryz.prog 7 #[.int .i64 a, .int .i64 b, .int .i64 n, .int .i64 k] w fun e w' => e = .returned (.bool true) ∧ Below w.heap.size w w' := by
  have HV := Lib.hid hv
  have B0 := Lib.hid (Below.refl w.heap.size w)
  have C1 := Lib.hid H1
  have C2 := Lib.hid H2
  have C3 := Lib.hid H3
  have C4 := Lib.hid H4
  have C5 := Lib.hid H5
  clear hv H1 H2 H3 H4 H5
  go_enter Tryz.func7, Tryz.ntmps7
  go_wp2_with (first
    | (go_at_call 12; ((with_reducible refine (C1.out _ (HV.out.below B0.out)).mono ?_); rintro e w1 ⟨rfl, b⟩; have B1 := Lib.hid (btE B0.out b); clear b))
    | (go_at_call 15; ((with_reducible refine (C2.out _ (HV.out.below B1.out)).mono ?_); rintro e w2 ⟨rfl, b⟩; have B2 := Lib.hid (btE B1.out b); clear b))
    | (go_at_call 15; ((with_reducible refine (C3.out _ (HV.out.below B2.out)).mono ?_); rintro e w3 ⟨rfl, b⟩; have B3 := Lib.hid (btE B2.out b); clear b))
    | (go_at_call 17; ((with_reducible refine (C4.out _ (HV.out.below B3.out)).mono ?_); rintro e w4 ⟨rfl, b⟩; have B4 := Lib.hid (btE B3.out b); clear b))
    | (go_at_call 18; ((with_reducible refine (C5.out _ (HV.out.below B4.out)).mono ?_); rintro e w5 ⟨rfl, b⟩; have B5 := Lib.hid (btE B4.out b); clear b)))
  go_ret
  exact ⟨ret_boolD (by simp), B5.out⟩
set_option maxRecDepth 100000 in
set_option maxHeartbeats 3200000 in
theorem dwhole_Ec (a b n k : Int) (u v f : Int) (y m d t : Int) (w : World) (hv : VarF w)
    (hd : 28 < d)
    (H1 : ∀ W, VarF W → Calls Tryz.prog 12 #[] W (BolR true W))
    (H2 : ∀ W, VarF W → Calls Tryz.prog 15 #[.int .i64 a, .int .i64 1, .int .i64 1] W (DysR u 2 W))
    (H3 : ∀ W, VarF W → Calls Tryz.prog 15 #[.int .i64 b, .int .i64 1, .int .i64 1] W (DysR v f W))
    (H4 : ∀ W, VarF W → Calls Tryz.prog 17 #[.int .i64 n] W (P4W y m d 0 W))
    (H5 : ∀ W, VarF W → Calls Tryz.prog 18 #[.int .i64 n, .int .i64 k, .bool false] W (DysR t 0 W)) :
    Calls Tryz.prog 7 #[.int .i64 a, .int .i64 b, .int .i64 n, .int .i64 k] w fun e w' => e = .returned (.bool true) ∧ Below w.heap.size w w' := by
  have HV := Lib.hid hv
  have B0 := Lib.hid (Below.refl w.heap.size w)
  have C1 := Lib.hid H1
  have C2 := Lib.hid H2
  have C3 := Lib.hid H3
  have C4 := Lib.hid H4
  have C5 := Lib.hid H5
  clear hv H1 H2 H3 H4 H5
  go_enter Tryz.func7, Tryz.ntmps7
  go_wp2_with (first
    | (go_at_call 12; ((with_reducible refine (C1.out _ (HV.out.below B0.out)).mono ?_); rintro e w1 ⟨rfl, b⟩; have B1 := Lib.hid (btE B0.out b); clear b))
    | (go_at_call 15; ((with_reducible refine (C2.out _ (HV.out.below B1.out)).mono ?_); rintro e w2 ⟨rfl, b⟩; have B2 := Lib.hid (btE B1.out b); clear b))
    | (go_at_call 15; ((with_reducible refine (C3.out _ (HV.out.below B2.out)).mono ?_); rintro e w3 ⟨rfl, b⟩; have B3 := Lib.hid (btE B2.out b); clear b))
    | (go_at_call 17; ((with_reducible refine (C4.out _ (HV.out.below B3.out)).mono ?_); rintro e w4 ⟨rfl, b⟩; have B4 := Lib.hid (btE B3.out b); clear b))
    | (go_at_call 18; ((with_reducible refine (C5.out _ (HV.out.below B4.out)).mono ?_); rintro e w5 ⟨rfl, b⟩; have B5 := Lib.hid (btE B4.out b); clear b)))
  go_ret
  exact ⟨ret_boolD (by simp), B5.out⟩
set_option maxRecDepth 100000 in
set_option maxHeartbeats 3200000 in
theorem dwhole_Ed (a b n k : Int) (u v f : Int) (y m d t : Int) (R : ByteArray) (w : World) (hv : VarF w)
    (hd : d ≤ 28)
    (H1 : ∀ W, VarF W → Calls Tryz.prog 12 #[] W (BolR true W))
    (H2 : ∀ W, VarF W → Calls Tryz.prog 15 #[.int .i64 a, .int .i64 1, .int .i64 1] W (DysR u 2 W))
    (H3 : ∀ W, VarF W → Calls Tryz.prog 15 #[.int .i64 b, .int .i64 1, .int .i64 1] W (DysR v f W))
    (H4 : ∀ W, VarF W → Calls Tryz.prog 17 #[.int .i64 n] W (P4W y m d 0 W))
    (H5 : ∀ W, VarF W → Calls Tryz.prog 18 #[.int .i64 n, .int .i64 k, .bool false] W (DysR t 0 W))
    (H6 : ∀ W, VarF W → Calls Tryz.prog 19 #[.int .i64 k, .int .i64 12] W (StE R 0 W))
    (H7 : ∀ W, VarF W → Calls Tryz.prog 11 #[.int .u8 2, .int .i64 n, .int .i64 t, .string R] W (BolR true W))
    (H8 : ∀ W, VarF W → Calls Tryz.prog 11 #[.int .u8 4, .int .i64 n, .int .i64 t, .string R] W (BolR true W)) :
    Calls Tryz.prog 7 #[.int .i64 a, .int .i64 b, .int .i64 n, .int .i64 k] w fun e w' => e = .returned (.bool true) ∧ Below w.heap.size w w' := by
  have HV := Lib.hid hv
  have B0 := Lib.hid (Below.refl w.heap.size w)
  have C1 := Lib.hid H1
  have C2 := Lib.hid H2
  have C3 := Lib.hid H3
  have C4 := Lib.hid H4
  have C5 := Lib.hid H5
  have C6 := Lib.hid H6
  have C7 := Lib.hid H7
  have C8 := Lib.hid H8
  clear hv H1 H2 H3 H4 H5 H6 H7 H8
  go_enter Tryz.func7, Tryz.ntmps7
  go_wp2_with (first
    | (go_at_call 12; ((with_reducible refine (C1.out _ (HV.out.below B0.out)).mono ?_); rintro e w1 ⟨rfl, b⟩; have B1 := Lib.hid (btE B0.out b); clear b))
    | (go_at_call 15; ((with_reducible refine (C2.out _ (HV.out.below B1.out)).mono ?_); rintro e w2 ⟨rfl, b⟩; have B2 := Lib.hid (btE B1.out b); clear b))
    | (go_at_call 15; ((with_reducible refine (C3.out _ (HV.out.below B2.out)).mono ?_); rintro e w3 ⟨rfl, b⟩; have B3 := Lib.hid (btE B2.out b); clear b))
    | (go_at_call 17; ((with_reducible refine (C4.out _ (HV.out.below B3.out)).mono ?_); rintro e w4 ⟨rfl, b⟩; have B4 := Lib.hid (btE B3.out b); clear b))
    | (go_at_call 18; ((with_reducible refine (C5.out _ (HV.out.below B4.out)).mono ?_); rintro e w5 ⟨rfl, b⟩; have B5 := Lib.hid (btE B4.out b); clear b))
    | (go_at_call 19; ((with_reducible refine (C6.out _ (HV.out.below B5.out)).mono ?_); rintro e w6 ⟨rfl, b⟩; have B6 := Lib.hid (btE B5.out b); clear b))
    | (go_at_call 11; ((with_reducible refine (C7.out _ (HV.out.below B6.out)).mono ?_); rintro e w7 ⟨rfl, b⟩; have B7 := Lib.hid (btE B6.out b); clear b))
    | (go_at_call 11; ((with_reducible refine (C8.out _ (HV.out.below B7.out)).mono ?_); rintro e w8 ⟨rfl, b⟩; have B8 := Lib.hid (btE B7.out b); clear b)))
  go_ret
  exact ⟨ret_boolD (by simp), B8.out⟩
set_option maxRecDepth 100000 in
set_option maxHeartbeats 3200000 in
theorem dwhole_Fa (a b n k : Int) (u v : Int) (y m d t h : Int) (w : World) (hv : VarF w)
    (H1 : ∀ W, VarF W → Calls Tryz.prog 12 #[] W (BolR true W))
    (H2 : ∀ W, VarF W → Calls Tryz.prog 15 #[.int .i64 a, .int .i64 1, .int .i64 1] W (DysR u 0 W))
    (H3 : ∀ W, VarF W → Calls Tryz.prog 15 #[.int .i64 b, .int .i64 1, .int .i64 1] W (DysR v 2 W))
    (H4 : ∀ W, VarF W → Calls Tryz.prog 17 #[.int .i64 n] W (P4W y m d 2 W))
    (H5 : ∀ W, VarF W → Calls Tryz.prog 18 #[.int .i64 n, .int .i64 k, .bool false] W (DysR t h W)) :
    Calls Tryz.prog 7 #[.int .i64 a, .int .i64 b, .int .i64 n, .int .i64 k] w fun e w' => e = .returned (.bool true) ∧ Below w.heap.size w w' := by
  have HV := Lib.hid hv
  have B0 := Lib.hid (Below.refl w.heap.size w)
  have C1 := Lib.hid H1
  have C2 := Lib.hid H2
  have C3 := Lib.hid H3
  have C4 := Lib.hid H4
  have C5 := Lib.hid H5
  clear hv H1 H2 H3 H4 H5
  go_enter Tryz.func7, Tryz.ntmps7
  go_wp2_with (first
    | (go_at_call 12; ((with_reducible refine (C1.out _ (HV.out.below B0.out)).mono ?_); rintro e w1 ⟨rfl, b⟩; have B1 := Lib.hid (btE B0.out b); clear b))
    | (go_at_call 15; ((with_reducible refine (C2.out _ (HV.out.below B1.out)).mono ?_); rintro e w2 ⟨rfl, b⟩; have B2 := Lib.hid (btE B1.out b); clear b))
    | (go_at_call 15; ((with_reducible refine (C3.out _ (HV.out.below B2.out)).mono ?_); rintro e w3 ⟨rfl, b⟩; have B3 := Lib.hid (btE B2.out b); clear b))
    | (go_at_call 17; ((with_reducible refine (C4.out _ (HV.out.below B3.out)).mono ?_); rintro e w4 ⟨rfl, b⟩; have B4 := Lib.hid (btE B3.out b); clear b))
    | (go_at_call 18; ((with_reducible refine (C5.out _ (HV.out.below B4.out)).mono ?_); rintro e w5 ⟨rfl, b⟩; have B5 := Lib.hid (btE B4.out b); clear b)))
  go_ret
  exact ⟨ret_boolD (by simp), B5.out⟩
set_option maxRecDepth 100000 in
set_option maxHeartbeats 3200000 in
theorem dwhole_Fb (a b n k : Int) (u v : Int) (y m d t h : Int) (w : World) (hv : VarF w)
    (hh2 : (h != 0) = true)
    (H1 : ∀ W, VarF W → Calls Tryz.prog 12 #[] W (BolR true W))
    (H2 : ∀ W, VarF W → Calls Tryz.prog 15 #[.int .i64 a, .int .i64 1, .int .i64 1] W (DysR u 0 W))
    (H3 : ∀ W, VarF W → Calls Tryz.prog 15 #[.int .i64 b, .int .i64 1, .int .i64 1] W (DysR v 2 W))
    (H4 : ∀ W, VarF W → Calls Tryz.prog 17 #[.int .i64 n] W (P4W y m d 0 W))
    (H5 : ∀ W, VarF W → Calls Tryz.prog 18 #[.int .i64 n, .int .i64 k, .bool false] W (DysR t h W)) :
    Calls Tryz.prog 7 #[.int .i64 a, .int .i64 b, .int .i64 n, .int .i64 k] w fun e w' => e = .returned (.bool true) ∧ Below w.heap.size w w' := by
  have HV := Lib.hid hv
  have B0 := Lib.hid (Below.refl w.heap.size w)
  have C1 := Lib.hid H1
  have C2 := Lib.hid H2
  have C3 := Lib.hid H3
  have C4 := Lib.hid H4
  have C5 := Lib.hid H5
  clear hv H1 H2 H3 H4 H5
  go_enter Tryz.func7, Tryz.ntmps7
  go_wp2_with (first
    | (go_at_call 12; ((with_reducible refine (C1.out _ (HV.out.below B0.out)).mono ?_); rintro e w1 ⟨rfl, b⟩; have B1 := Lib.hid (btE B0.out b); clear b))
    | (go_at_call 15; ((with_reducible refine (C2.out _ (HV.out.below B1.out)).mono ?_); rintro e w2 ⟨rfl, b⟩; have B2 := Lib.hid (btE B1.out b); clear b))
    | (go_at_call 15; ((with_reducible refine (C3.out _ (HV.out.below B2.out)).mono ?_); rintro e w3 ⟨rfl, b⟩; have B3 := Lib.hid (btE B2.out b); clear b))
    | (go_at_call 17; ((with_reducible refine (C4.out _ (HV.out.below B3.out)).mono ?_); rintro e w4 ⟨rfl, b⟩; have B4 := Lib.hid (btE B3.out b); clear b))
    | (go_at_call 18; ((with_reducible refine (C5.out _ (HV.out.below B4.out)).mono ?_); rintro e w5 ⟨rfl, b⟩; have B5 := Lib.hid (btE B4.out b); clear b)))
  go_ret
  exact ⟨ret_boolD (by simp), B5.out⟩
set_option maxRecDepth 100000 in
set_option maxHeartbeats 3200000 in
theorem dwhole_Fc (a b n k : Int) (u v : Int) (y m d t : Int) (w : World) (hv : VarF w)
    (hd : 28 < d)
    (H1 : ∀ W, VarF W → Calls Tryz.prog 12 #[] W (BolR true W))
    (H2 : ∀ W, VarF W → Calls Tryz.prog 15 #[.int .i64 a, .int .i64 1, .int .i64 1] W (DysR u 0 W))
    (H3 : ∀ W, VarF W → Calls Tryz.prog 15 #[.int .i64 b, .int .i64 1, .int .i64 1] W (DysR v 2 W))
    (H4 : ∀ W, VarF W → Calls Tryz.prog 17 #[.int .i64 n] W (P4W y m d 0 W))
    (H5 : ∀ W, VarF W → Calls Tryz.prog 18 #[.int .i64 n, .int .i64 k, .bool false] W (DysR t 0 W)) :
    Calls Tryz.prog 7 #[.int .i64 a, .int .i64 b, .int .i64 n, .int .i64 k] w fun e w' => e = .returned (.bool true) ∧ Below w.heap.size w w' := by
  have HV := Lib.hid hv
  have B0 := Lib.hid (Below.refl w.heap.size w)
  have C1 := Lib.hid H1
  have C2 := Lib.hid H2
  have C3 := Lib.hid H3
  have C4 := Lib.hid H4
  have C5 := Lib.hid H5
  clear hv H1 H2 H3 H4 H5
  go_enter Tryz.func7, Tryz.ntmps7
  go_wp2_with (first
    | (go_at_call 12; ((with_reducible refine (C1.out _ (HV.out.below B0.out)).mono ?_); rintro e w1 ⟨rfl, b⟩; have B1 := Lib.hid (btE B0.out b); clear b))
    | (go_at_call 15; ((with_reducible refine (C2.out _ (HV.out.below B1.out)).mono ?_); rintro e w2 ⟨rfl, b⟩; have B2 := Lib.hid (btE B1.out b); clear b))
    | (go_at_call 15; ((with_reducible refine (C3.out _ (HV.out.below B2.out)).mono ?_); rintro e w3 ⟨rfl, b⟩; have B3 := Lib.hid (btE B2.out b); clear b))
    | (go_at_call 17; ((with_reducible refine (C4.out _ (HV.out.below B3.out)).mono ?_); rintro e w4 ⟨rfl, b⟩; have B4 := Lib.hid (btE B3.out b); clear b))
    | (go_at_call 18; ((with_reducible refine (C5.out _ (HV.out.below B4.out)).mono ?_); rintro e w5 ⟨rfl, b⟩; have B5 := Lib.hid (btE B4.out b); clear b)))
  go_ret
  exact ⟨ret_boolD (by simp), B5.out⟩
set_option maxRecDepth 100000 in
set_option maxHeartbeats 3200000 in
theorem dwhole_Fd (a b n k : Int) (u v : Int) (y m d t : Int) (R : ByteArray) (w : World) (hv : VarF w)
    (hd : d ≤ 28)
    (H1 : ∀ W, VarF W → Calls Tryz.prog 12 #[] W (BolR true W))
    (H2 : ∀ W, VarF W → Calls Tryz.prog 15 #[.int .i64 a, .int .i64 1, .int .i64 1] W (DysR u 0 W))
    (H3 : ∀ W, VarF W → Calls Tryz.prog 15 #[.int .i64 b, .int .i64 1, .int .i64 1] W (DysR v 2 W))
    (H4 : ∀ W, VarF W → Calls Tryz.prog 17 #[.int .i64 n] W (P4W y m d 0 W))
    (H5 : ∀ W, VarF W → Calls Tryz.prog 18 #[.int .i64 n, .int .i64 k, .bool false] W (DysR t 0 W))
    (H6 : ∀ W, VarF W → Calls Tryz.prog 19 #[.int .i64 k, .int .i64 12] W (StE R 0 W))
    (H7 : ∀ W, VarF W → Calls Tryz.prog 11 #[.int .u8 2, .int .i64 n, .int .i64 t, .string R] W (BolR true W))
    (H8 : ∀ W, VarF W → Calls Tryz.prog 11 #[.int .u8 4, .int .i64 n, .int .i64 t, .string R] W (BolR true W)) :
    Calls Tryz.prog 7 #[.int .i64 a, .int .i64 b, .int .i64 n, .int .i64 k] w fun e w' => e = .returned (.bool true) ∧ Below w.heap.size w w' := by
  have HV := Lib.hid hv
  have B0 := Lib.hid (Below.refl w.heap.size w)
  have C1 := Lib.hid H1
  have C2 := Lib.hid H2
  have C3 := Lib.hid H3
  have C4 := Lib.hid H4
  have C5 := Lib.hid H5
  have C6 := Lib.hid H6
  have C7 := Lib.hid H7
  have C8 := Lib.hid H8
  clear hv H1 H2 H3 H4 H5 H6 H7 H8
  go_enter Tryz.func7, Tryz.ntmps7
  go_wp2_with (first
    | (go_at_call 12; ((with_reducible refine (C1.out _ (HV.out.below B0.out)).mono ?_); rintro e w1 ⟨rfl, b⟩; have B1 := Lib.hid (btE B0.out b); clear b))
    | (go_at_call 15; ((with_reducible refine (C2.out _ (HV.out.below B1.out)).mono ?_); rintro e w2 ⟨rfl, b⟩; have B2 := Lib.hid (btE B1.out b); clear b))
    | (go_at_call 15; ((with_reducible refine (C3.out _ (HV.out.below B2.out)).mono ?_); rintro e w3 ⟨rfl, b⟩; have B3 := Lib.hid (btE B2.out b); clear b))
    | (go_at_call 17; ((with_reducible refine (C4.out _ (HV.out.below B3.out)).mono ?_); rintro e w4 ⟨rfl, b⟩; have B4 := Lib.hid (btE B3.out b); clear b))
    | (go_at_call 18; ((with_reducible refine (C5.out _ (HV.out.below B4.out)).mono ?_); rintro e w5 ⟨rfl, b⟩; have B5 := Lib.hid (btE B4.out b); clear b))
    | (go_at_call 19; ((with_reducible refine (C6.out _ (HV.out.below B5.out)).mono ?_); rintro e w6 ⟨rfl, b⟩; have B6 := Lib.hid (btE B5.out b); clear b))
    | (go_at_call 11; ((with_reducible refine (C7.out _ (HV.out.below B6.out)).mono ?_); rintro e w7 ⟨rfl, b⟩; have B7 := Lib.hid (btE B6.out b); clear b))
    | (go_at_call 11; ((with_reducible refine (C8.out _ (HV.out.below B7.out)).mono ?_); rintro e w8 ⟨rfl, b⟩; have B8 := Lib.hid (btE B7.out b); clear b)))
  go_ret
  exact ⟨ret_boolD (by simp), B8.out⟩
/-- The second half of the law, for each first half. -/
theorem dwhole_second (a b n k : Int) (w : World)
    (A : ∀ (y m d t h : Int), (∀ W, VarF W → Calls Tryz.prog 17 #[.int .i64 n] W (P4W y m d 2 W)) → (∀ W, VarF W → Calls Tryz.prog 18 #[.int .i64 n, .int .i64 k, .bool false] W (DysR t h W)) → Calls Tryz.prog 7 #[.int .i64 a, .int .i64 b, .int .i64 n, .int .i64 k] w fun e w' => e = .returned (.bool true) ∧ Below w.heap.size w w')
    (B : ∀ (y m d t h : Int), (h != 0) = true → (∀ W, VarF W → Calls Tryz.prog 17 #[.int .i64 n] W (P4W y m d 0 W)) → (∀ W, VarF W → Calls Tryz.prog 18 #[.int .i64 n, .int .i64 k, .bool false] W (DysR t h W)) → Calls Tryz.prog 7 #[.int .i64 a, .int .i64 b, .int .i64 n, .int .i64 k] w fun e w' => e = .returned (.bool true) ∧ Below w.heap.size w w')
    (C : ∀ (y m d t : Int), 28 < d → (∀ W, VarF W → Calls Tryz.prog 17 #[.int .i64 n] W (P4W y m d 0 W)) → (∀ W, VarF W → Calls Tryz.prog 18 #[.int .i64 n, .int .i64 k, .bool false] W (DysR t 0 W)) → Calls Tryz.prog 7 #[.int .i64 a, .int .i64 b, .int .i64 n, .int .i64 k] w fun e w' => e = .returned (.bool true) ∧ Below w.heap.size w w')
    (D : ∀ (y m d t : Int) (R : ByteArray), d ≤ 28 → (∀ W, VarF W → Calls Tryz.prog 17 #[.int .i64 n] W (P4W y m d 0 W)) → (∀ W, VarF W → Calls Tryz.prog 18 #[.int .i64 n, .int .i64 k, .bool false] W (DysR t 0 W)) → (∀ W, VarF W → Calls Tryz.prog 19 #[.int .i64 k, .int .i64 12] W (StE R 0 W)) →
      (∀ W, VarF W → Calls Tryz.prog 11 #[.int .u8 2, .int .i64 n, .int .i64 t, .string R] W (BolR true W)) → (∀ W, VarF W → Calls Tryz.prog 11 #[.int .u8 4, .int .i64 n, .int .i64 t, .string R] W (BolR true W)) → Calls Tryz.prog 7 #[.int .i64 a, .int .i64 b, .int .i64 n, .int .i64 k] w fun e w' => e = .returned (.bool true) ∧ Below w.heap.size w w') :
    Calls Tryz.prog 7 #[.int .i64 a, .int .i64 b, .int .i64 n, .int .i64 k] w fun e w' => e = .returned (.bool true) ∧ Below w.heap.size w w' := by
  by_cases hn : 0 ≤ n ∧ n ≤ 99999
  · obtain ⟨y, m, d, hd⟩ := isDate_of n hn.1
    have P := fun W (hW : VarF W) => parts_w hd hn.2 W hW
    by_cases hk : -4000 ≤ k ∧ k ≤ 4000
    · have M := fun W (hW : VarF W) => (addMonths_in y m d n k false hd hn.2 hk.1 hk.2 W hW.d).mono (R' := DysR (amV y m d k false) (amE y m d k false) W) fun _ _ ⟨h1, h2⟩ => ⟨h1, below_eqE h2⟩
      cases ho : okB (mvY y m k) (mvM y m k) (amD y m d k false)
      · have e : amE y m d k false = 40 := by unfold amE; rw [ho]; rfl
        rw [e] at M
        exact B _ _ _ _ _ rfl P M
      · have e : amE y m d k false = 0 := by unfold amE; rw [ho]; rfl
        rw [e] at M
        by_cases h28 : 28 < d
        · exact C _ _ _ _ h28 P M
        · have h28' : d ≤ 28 := by omega
          have hml := mlen_bd (mvY y m k) (mvM y m k)
          have hdd : amD y m d k false = d := by unfold amD; rw [if_neg (by simp)]; omega
          rw [hdd] at ho
          obtain ⟨hD, hle⟩ := okB_date ho
          have hv2 : amV y m d k false = dayI (mvY y m k) (mvM y m k) d := by unfold amV ofV; rw [hdd, if_pos ho]
          rw [hv2] at M
          exact D _ _ _ _ _ h28' P M (fun W hW => ratio_q k 12 (by decide) (by omega) (by omega) (by decide) (by decide) _ rfl W hW.r.t)
            (fun W hW => gives_in 2 y m d n _ _ d _ _ (by decide) (by decide) hd hD hn.2 hle (congrArg rq (frQ_months (.inl rfl) h28')) W hW)
            (fun W hW => gives_in 4 y m d n _ _ d _ _ (by decide) (by decide) hd hD hn.2 hle (congrArg rq (frQ_months (.inr rfl) h28')) W hW)
    · have M := fun W (_ : VarF W) => (addMonths_out n k false (by omega) W).mono (R' := DysR 0 2 W) fun _ _ ⟨h1, h2⟩ => ⟨h1, below_eqE h2⟩
      exact B _ _ _ _ _ rfl P M
  · exact A _ _ _ _ _ (fun W _ => (parts4_out n (by omega) W).mono fun _ _ ⟨h1, h2⟩ => ⟨h1, below_eqE h2⟩) (fun W _ => (addMonths_out n k false (by omega) W).mono fun _ _ ⟨h1, h2⟩ => ⟨h1, below_eqE h2⟩)

theorem ofE_cases (y : Int) : (ofE y 1 1 = 0 ∧ 1900 ≤ y ∧ y ≤ 2173 ∧ IsDate y 1 1 (foy y) ∧ foy y ≤ 99999 ∧ ofV y 1 1 = foy y) ∨ ofE y 1 1 = 2 := by
  unfold ofE ofV
  cases h : okB y 1 1
  · exact .inr rfl
  · left
    obtain ⟨hD, hle⟩ := okB_date h
    have e : dayI y 1 1 = foy y := by show foy y + mo y 0 + 1 - 1 = foy y; simp [mo]
    rw [if_pos rfl, if_pos rfl]
    rw [e] at hD hle ⊢
    exact ⟨rfl, hD.y0, hD.y1 hle, hD, hle, rfl⟩
theorem dwhole_law (a b n k : Int) (w : World) (hv : VarF w) :
    Calls Tryz.prog 7 #[.int .i64 a, .int .i64 b, .int .i64 n, .int .i64 k] w fun e w' => e = .returned (.bool true) ∧ Below w.heap.size w w' := by
  have OA := fun W (hW : VarF W) => of_w a W hW
  have OB := fun W (hW : VarF W) => of_w b W hW
  rcases ofE_cases a with ⟨e1, a0, a1, ha, la, va⟩ | e1
  · rw [e1, va] at OA
    rcases ofE_cases b with ⟨e2, b0, b1, hb, lb, vb⟩ | e2
    · rw [e2, vb] at OB
      have RO := fun W (hW : VarF W) => rof_any (b - a) (by omega) (by omega) W hW.r.t
      have G := fun W (hW : VarF W) => gives_in 3 a 1 1 (foy a) b 1 1 (foy b) ⟨(Lib.itoa (b - a)).toArray⟩ (by decide) (by decide) ha hb la lb (by rw [frQ_years]; exact rq_int (b - a)) W hW
      exact dwhole_second a b n k w (fun y m d t h P M => dwhole_Ga a b n k _ _ _ y m d t h w hv a0 a1 b0 b1 alive5 OA OB RO G P M) (fun y m d t h h2 P M => dwhole_Gb a b n k _ _ _ y m d t h w hv a0 a1 b0 b1 h2 alive5 OA OB RO G P M)
        (fun y m d t h P M => dwhole_Gc a b n k _ _ _ y m d t w hv a0 a1 b0 b1 h alive5 OA OB RO G P M) (fun y m d t R h P M X Y Z => dwhole_Gd a b n k _ _ _ y m d t R w hv a0 a1 b0 b1 h alive5 OA OB RO G P M X Y Z)
    · rw [e2] at OB
      exact dwhole_second a b n k w (fun y m d t h P M => dwhole_Fa a b n k _ _ y m d t h w hv alive5 OA OB P M) (fun y m d t h h2 P M => dwhole_Fb a b n k _ _ y m d t h w hv h2 alive5 OA OB P M)
        (fun y m d t h P M => dwhole_Fc a b n k _ _ y m d t w hv h alive5 OA OB P M) (fun y m d t R h P M X Y Z => dwhole_Fd a b n k _ _ y m d t R w hv h alive5 OA OB P M X Y Z)
  · rw [e1] at OA
    exact dwhole_second a b n k w (fun y m d t h P M => dwhole_Ea a b n k _ _ _ y m d t h w hv alive5 OA OB P M) (fun y m d t h h2 P M => dwhole_Eb a b n k _ _ _ y m d t h w hv h2 alive5 OA OB P M)
      (fun y m d t h P M => dwhole_Ec a b n k _ _ _ y m d t w hv h alive5 OA OB P M) (fun y m d t R h P M X Y Z => dwhole_Ed a b n k _ _ _ y m d t R w hv h alive5 OA OB P M X Y Z)
end Go.Proofs.YtpgfadkkfofhcaaGreatDoor

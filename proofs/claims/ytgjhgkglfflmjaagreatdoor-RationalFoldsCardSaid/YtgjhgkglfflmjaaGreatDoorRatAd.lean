/- The walks of layer 2: round, Round. -/
import Derived.Test.YtgjhgkglfflmjaaGreatDoorRatAc
namespace Go.Proofs.YtgjhgkglfflmjaaGreatDoor
open Go Go.RowKit

set_option maxRecDepth 100000 in
set_option maxHeartbeats 1600000 in
theorem round_zero (K : Nat) (n d fl rs : ByteArray) (hz : (rs.toList == [48]) = true) (w : World) (hv : VarT w)
    (H1 : ∀ W, VarT W → Calls Tryz.prog 86 #[.string n, .string d] W (TwoR fl rs 0 W)) :
    Calls Tryz.prog 53 #[.agg #[.string n, .string d], .func (.func K) #[] #[]] w (StE fl 0 w) := by
  have J1 := Lib.hid H1
  have HB := Lib.hid ((Below.refl _ w).alloc (Nat.le_refl _) (.cells #[.string n, .string d] 60))
  have HV := Lib.hid (hv.below HB.out)
  clear H1 hv
  go_enter Tryz.func53, Tryz.ntmps53
  go_wp2_with (go_at_call 86; refine (J1.out _ HV.out).mono ?_; rintro e w1 ⟨rfl, b⟩; have B1 := Lib.hid (bt HB.out b); clear b)
  go_ret2
  exact ⟨rfl, B1.out⟩
set_option maxRecDepth 100000 in
set_option maxHeartbeats 1600000 in
theorem round_up_0 (n d fl rs lf up : ByteArray) (g o : Bool) (mid : Int) (hz : (rs.toList == [48]) = false) (w : World) (hv : VarT w)
    (H1 : ∀ W, VarT W → Calls Tryz.prog 86 #[.string n, .string d] W (TwoR fl rs 0 W))
    (H2 : ∀ W, VarT W → Calls Tryz.prog 93 #[.string d, .string rs] W (StE lf 0 W))
    (H3 : ∀ W, VarT W → Calls Tryz.prog 44 #[.string rs, .string lf] W (CmpR mid W))
    (H4 : ∀ W, Calls Tryz.prog 85 #[.string n] W (BooR g W))
    (H5 : ∀ W, Calls Tryz.prog 94 #[.string fl] W (BooR o W))
    (H6 : ∀ W, Calls Tryz.prog 88 #[.agg #[.bool g, .bool o, .int .i64 mid]] W (BoA true W))
    (H7 : ∀ W, VarT W → Calls Tryz.prog 77 #[.string fl, .string ⟨#[49]⟩] W (StE up 0 W)) :
    Calls Tryz.prog 53 #[.agg #[.string n, .string d], .func (.func 88) #[] #[]] w (StE up 0 w) := by
  have J1 := Lib.hid H1
  have J2 := Lib.hid H2
  have J3 := Lib.hid H3
  have J4 := Lib.hid H4
  have J5 := Lib.hid H5
  have J6 := Lib.hid H6
  have J7 := Lib.hid H7
  have HB := Lib.hid ((Below.refl _ w).alloc (Nat.le_refl _) (.cells #[.string n, .string d] 60))
  have HV := Lib.hid hv
  have HX := row2 (heap_alloc_new w (.cells #[.string n, .string d] 60))
  have HX := Lib.hid HX
  clear H1 H2 H3 H4 H5 H6 H7 hv
  go_enter Tryz.func53, Tryz.ntmps53
  go_wp2_with (first
    | (go_at_call 86; refine (J1.out _ (HV.out.below HB.out)).mono ?_; rintro e w1 ⟨rfl, b⟩; have B1 := Lib.hid (bt HB.out b); obtain ⟨x1, x2, _, _⟩ := HX.out; have k1 := (b.cell (p := ⟨w.heap.size, 0, none⟩) (World.block_lt_of_cell? _ _ x1)).trans x1; have k2 := (b.cell (p := ⟨w.heap.size, 1, none⟩) (World.block_lt_of_cell? _ _ x2)).trans x2; clear b x1 x2)
    | (go_at_call 93; refine (J2.out _ (HV.out.below B1.out)).mono ?_; rintro e w2 ⟨rfl, b⟩; have B2 := Lib.hid (bt B1.out b); have k3 := (b.cell (p := ⟨w.heap.size, 0, none⟩) (World.block_lt_of_cell? _ _ k1)).trans k1; clear b k1 k2)
    | (go_at_call 44; refine (J3.out _ (HV.out.below B2.out)).mono ?_; rintro e w3 ⟨rfl, b⟩; have B3 := Lib.hid (bt B2.out b); have k4 := (b.cell (p := ⟨w.heap.size, 0, none⟩) (World.block_lt_of_cell? _ _ k3)).trans k3; clear b k3)
    | (go_at_call 85; refine (J4.out _).mono ?_; rintro e w4 ⟨rfl, rfl⟩)
    | (go_at_call 94; refine (J5.out _).mono ?_; rintro e w5 ⟨rfl, rfl⟩)
    | (go_at_call 88; refine (J6.out _).mono ?_; rintro e w6 ⟨rfl, b⟩; have B6 := Lib.hid (bt B3.out b); clear b k4)
    | (go_at_call 77; refine (J7.out _ (HV.out.below B6.out)).mono ?_; rintro e w7 ⟨rfl, b⟩; have B7 := Lib.hid (bt B6.out b); clear b))
  go_ret2
  exact ⟨rfl, B7.out⟩
set_option maxRecDepth 100000 in
set_option maxHeartbeats 1600000 in
theorem round_stay_0 (n d fl rs lf : ByteArray) (g o : Bool) (mid : Int) (hz : (rs.toList == [48]) = false) (w : World) (hv : VarT w)
    (H1 : ∀ W, VarT W → Calls Tryz.prog 86 #[.string n, .string d] W (TwoR fl rs 0 W))
    (H2 : ∀ W, VarT W → Calls Tryz.prog 93 #[.string d, .string rs] W (StE lf 0 W))
    (H3 : ∀ W, VarT W → Calls Tryz.prog 44 #[.string rs, .string lf] W (CmpR mid W))
    (H4 : ∀ W, Calls Tryz.prog 85 #[.string n] W (BooR g W))
    (H5 : ∀ W, Calls Tryz.prog 94 #[.string fl] W (BooR o W))
    (H6 : ∀ W, Calls Tryz.prog 88 #[.agg #[.bool g, .bool o, .int .i64 mid]] W (BoA false W)) :
    Calls Tryz.prog 53 #[.agg #[.string n, .string d], .func (.func 88) #[] #[]] w (StE fl 0 w) := by
  have J1 := Lib.hid H1
  have J2 := Lib.hid H2
  have J3 := Lib.hid H3
  have J4 := Lib.hid H4
  have J5 := Lib.hid H5
  have J6 := Lib.hid H6
  have HB := Lib.hid ((Below.refl _ w).alloc (Nat.le_refl _) (.cells #[.string n, .string d] 60))
  have HV := Lib.hid hv
  have HX := row2 (heap_alloc_new w (.cells #[.string n, .string d] 60))
  have HX := Lib.hid HX
  clear H1 H2 H3 H4 H5 H6 hv
  go_enter Tryz.func53, Tryz.ntmps53
  go_wp2_with (first
    | (go_at_call 86; refine (J1.out _ (HV.out.below HB.out)).mono ?_; rintro e w1 ⟨rfl, b⟩; have B1 := Lib.hid (bt HB.out b); obtain ⟨x1, x2, _, _⟩ := HX.out; have k1 := (b.cell (p := ⟨w.heap.size, 0, none⟩) (World.block_lt_of_cell? _ _ x1)).trans x1; have k2 := (b.cell (p := ⟨w.heap.size, 1, none⟩) (World.block_lt_of_cell? _ _ x2)).trans x2; clear b x1 x2)
    | (go_at_call 93; refine (J2.out _ (HV.out.below B1.out)).mono ?_; rintro e w2 ⟨rfl, b⟩; have B2 := Lib.hid (bt B1.out b); have k3 := (b.cell (p := ⟨w.heap.size, 0, none⟩) (World.block_lt_of_cell? _ _ k1)).trans k1; clear b k1 k2)
    | (go_at_call 44; refine (J3.out _ (HV.out.below B2.out)).mono ?_; rintro e w3 ⟨rfl, b⟩; have B3 := Lib.hid (bt B2.out b); have k4 := (b.cell (p := ⟨w.heap.size, 0, none⟩) (World.block_lt_of_cell? _ _ k3)).trans k3; clear b k3)
    | (go_at_call 85; refine (J4.out _).mono ?_; rintro e w4 ⟨rfl, rfl⟩)
    | (go_at_call 94; refine (J5.out _).mono ?_; rintro e w5 ⟨rfl, rfl⟩)
    | (go_at_call 88; refine (J6.out _).mono ?_; rintro e w6 ⟨rfl, b⟩; have B6 := Lib.hid (bt B3.out b); clear b k4))
  go_ret2
  exact ⟨rfl, B6.out⟩
set_option maxRecDepth 100000 in
set_option maxHeartbeats 1600000 in
theorem round_up_1 (n d fl rs lf up : ByteArray) (g o : Bool) (mid : Int) (hz : (rs.toList == [48]) = false) (w : World) (hv : VarT w)
    (H1 : ∀ W, VarT W → Calls Tryz.prog 86 #[.string n, .string d] W (TwoR fl rs 0 W))
    (H2 : ∀ W, VarT W → Calls Tryz.prog 93 #[.string d, .string rs] W (StE lf 0 W))
    (H3 : ∀ W, VarT W → Calls Tryz.prog 44 #[.string rs, .string lf] W (CmpR mid W))
    (H4 : ∀ W, Calls Tryz.prog 85 #[.string n] W (BooR g W))
    (H5 : ∀ W, Calls Tryz.prog 94 #[.string fl] W (BooR o W))
    (H6 : ∀ W, Calls Tryz.prog 89 #[.agg #[.bool g, .bool o, .int .i64 mid]] W (BoA true W))
    (H7 : ∀ W, VarT W → Calls Tryz.prog 77 #[.string fl, .string ⟨#[49]⟩] W (StE up 0 W)) :
    Calls Tryz.prog 53 #[.agg #[.string n, .string d], .func (.func 89) #[] #[]] w (StE up 0 w) := by
  have J1 := Lib.hid H1
  have J2 := Lib.hid H2
  have J3 := Lib.hid H3
  have J4 := Lib.hid H4
  have J5 := Lib.hid H5
  have J6 := Lib.hid H6
  have J7 := Lib.hid H7
  have HB := Lib.hid ((Below.refl _ w).alloc (Nat.le_refl _) (.cells #[.string n, .string d] 60))
  have HV := Lib.hid hv
  have HX := row2 (heap_alloc_new w (.cells #[.string n, .string d] 60))
  have HX := Lib.hid HX
  clear H1 H2 H3 H4 H5 H6 H7 hv
  go_enter Tryz.func53, Tryz.ntmps53
  go_wp2_with (first
    | (go_at_call 86; refine (J1.out _ (HV.out.below HB.out)).mono ?_; rintro e w1 ⟨rfl, b⟩; have B1 := Lib.hid (bt HB.out b); obtain ⟨x1, x2, _, _⟩ := HX.out; have k1 := (b.cell (p := ⟨w.heap.size, 0, none⟩) (World.block_lt_of_cell? _ _ x1)).trans x1; have k2 := (b.cell (p := ⟨w.heap.size, 1, none⟩) (World.block_lt_of_cell? _ _ x2)).trans x2; clear b x1 x2)
    | (go_at_call 93; refine (J2.out _ (HV.out.below B1.out)).mono ?_; rintro e w2 ⟨rfl, b⟩; have B2 := Lib.hid (bt B1.out b); have k3 := (b.cell (p := ⟨w.heap.size, 0, none⟩) (World.block_lt_of_cell? _ _ k1)).trans k1; clear b k1 k2)
    | (go_at_call 44; refine (J3.out _ (HV.out.below B2.out)).mono ?_; rintro e w3 ⟨rfl, b⟩; have B3 := Lib.hid (bt B2.out b); have k4 := (b.cell (p := ⟨w.heap.size, 0, none⟩) (World.block_lt_of_cell? _ _ k3)).trans k3; clear b k3)
    | (go_at_call 85; refine (J4.out _).mono ?_; rintro e w4 ⟨rfl, rfl⟩)
    | (go_at_call 94; refine (J5.out _).mono ?_; rintro e w5 ⟨rfl, rfl⟩)
    | (go_at_call 89; refine (J6.out _).mono ?_; rintro e w6 ⟨rfl, b⟩; have B6 := Lib.hid (bt B3.out b); clear b k4)
    | (go_at_call 77; refine (J7.out _ (HV.out.below B6.out)).mono ?_; rintro e w7 ⟨rfl, b⟩; have B7 := Lib.hid (bt B6.out b); clear b))
  go_ret2
  exact ⟨rfl, B7.out⟩
set_option maxRecDepth 100000 in
set_option maxHeartbeats 1600000 in
theorem round_stay_1 (n d fl rs lf : ByteArray) (g o : Bool) (mid : Int) (hz : (rs.toList == [48]) = false) (w : World) (hv : VarT w)
    (H1 : ∀ W, VarT W → Calls Tryz.prog 86 #[.string n, .string d] W (TwoR fl rs 0 W))
    (H2 : ∀ W, VarT W → Calls Tryz.prog 93 #[.string d, .string rs] W (StE lf 0 W))
    (H3 : ∀ W, VarT W → Calls Tryz.prog 44 #[.string rs, .string lf] W (CmpR mid W))
    (H4 : ∀ W, Calls Tryz.prog 85 #[.string n] W (BooR g W))
    (H5 : ∀ W, Calls Tryz.prog 94 #[.string fl] W (BooR o W))
    (H6 : ∀ W, Calls Tryz.prog 89 #[.agg #[.bool g, .bool o, .int .i64 mid]] W (BoA false W)) :
    Calls Tryz.prog 53 #[.agg #[.string n, .string d], .func (.func 89) #[] #[]] w (StE fl 0 w) := by
  have J1 := Lib.hid H1
  have J2 := Lib.hid H2
  have J3 := Lib.hid H3
  have J4 := Lib.hid H4
  have J5 := Lib.hid H5
  have J6 := Lib.hid H6
  have HB := Lib.hid ((Below.refl _ w).alloc (Nat.le_refl _) (.cells #[.string n, .string d] 60))
  have HV := Lib.hid hv
  have HX := row2 (heap_alloc_new w (.cells #[.string n, .string d] 60))
  have HX := Lib.hid HX
  clear H1 H2 H3 H4 H5 H6 hv
  go_enter Tryz.func53, Tryz.ntmps53
  go_wp2_with (first
    | (go_at_call 86; refine (J1.out _ (HV.out.below HB.out)).mono ?_; rintro e w1 ⟨rfl, b⟩; have B1 := Lib.hid (bt HB.out b); obtain ⟨x1, x2, _, _⟩ := HX.out; have k1 := (b.cell (p := ⟨w.heap.size, 0, none⟩) (World.block_lt_of_cell? _ _ x1)).trans x1; have k2 := (b.cell (p := ⟨w.heap.size, 1, none⟩) (World.block_lt_of_cell? _ _ x2)).trans x2; clear b x1 x2)
    | (go_at_call 93; refine (J2.out _ (HV.out.below B1.out)).mono ?_; rintro e w2 ⟨rfl, b⟩; have B2 := Lib.hid (bt B1.out b); have k3 := (b.cell (p := ⟨w.heap.size, 0, none⟩) (World.block_lt_of_cell? _ _ k1)).trans k1; clear b k1 k2)
    | (go_at_call 44; refine (J3.out _ (HV.out.below B2.out)).mono ?_; rintro e w3 ⟨rfl, b⟩; have B3 := Lib.hid (bt B2.out b); have k4 := (b.cell (p := ⟨w.heap.size, 0, none⟩) (World.block_lt_of_cell? _ _ k3)).trans k3; clear b k3)
    | (go_at_call 85; refine (J4.out _).mono ?_; rintro e w4 ⟨rfl, rfl⟩)
    | (go_at_call 94; refine (J5.out _).mono ?_; rintro e w5 ⟨rfl, rfl⟩)
    | (go_at_call 89; refine (J6.out _).mono ?_; rintro e w6 ⟨rfl, b⟩; have B6 := Lib.hid (bt B3.out b); clear b k4))
  go_ret2
  exact ⟨rfl, B6.out⟩
set_option maxRecDepth 100000 in
set_option maxHeartbeats 1600000 in
theorem round_up_2 (n d fl rs lf up : ByteArray) (g o : Bool) (mid : Int) (hz : (rs.toList == [48]) = false) (w : World) (hv : VarT w)
    (H1 : ∀ W, VarT W → Calls Tryz.prog 86 #[.string n, .string d] W (TwoR fl rs 0 W))
    (H2 : ∀ W, VarT W → Calls Tryz.prog 93 #[.string d, .string rs] W (StE lf 0 W))
    (H3 : ∀ W, VarT W → Calls Tryz.prog 44 #[.string rs, .string lf] W (CmpR mid W))
    (H4 : ∀ W, Calls Tryz.prog 85 #[.string n] W (BooR g W))
    (H5 : ∀ W, Calls Tryz.prog 94 #[.string fl] W (BooR o W))
    (H6 : ∀ W, Calls Tryz.prog 90 #[.agg #[.bool g, .bool o, .int .i64 mid]] W (BoA true W))
    (H7 : ∀ W, VarT W → Calls Tryz.prog 77 #[.string fl, .string ⟨#[49]⟩] W (StE up 0 W)) :
    Calls Tryz.prog 53 #[.agg #[.string n, .string d], .func (.func 90) #[] #[]] w (StE up 0 w) := by
  have J1 := Lib.hid H1
  have J2 := Lib.hid H2
  have J3 := Lib.hid H3
  have J4 := Lib.hid H4
  have J5 := Lib.hid H5
  have J6 := Lib.hid H6
  have J7 := Lib.hid H7
  have HB := Lib.hid ((Below.refl _ w).alloc (Nat.le_refl _) (.cells #[.string n, .string d] 60))
  have HV := Lib.hid hv
  have HX := row2 (heap_alloc_new w (.cells #[.string n, .string d] 60))
  have HX := Lib.hid HX
  clear H1 H2 H3 H4 H5 H6 H7 hv
  go_enter Tryz.func53, Tryz.ntmps53
  go_wp2_with (first
    | (go_at_call 86; refine (J1.out _ (HV.out.below HB.out)).mono ?_; rintro e w1 ⟨rfl, b⟩; have B1 := Lib.hid (bt HB.out b); obtain ⟨x1, x2, _, _⟩ := HX.out; have k1 := (b.cell (p := ⟨w.heap.size, 0, none⟩) (World.block_lt_of_cell? _ _ x1)).trans x1; have k2 := (b.cell (p := ⟨w.heap.size, 1, none⟩) (World.block_lt_of_cell? _ _ x2)).trans x2; clear b x1 x2)
    | (go_at_call 93; refine (J2.out _ (HV.out.below B1.out)).mono ?_; rintro e w2 ⟨rfl, b⟩; have B2 := Lib.hid (bt B1.out b); have k3 := (b.cell (p := ⟨w.heap.size, 0, none⟩) (World.block_lt_of_cell? _ _ k1)).trans k1; clear b k1 k2)
    | (go_at_call 44; refine (J3.out _ (HV.out.below B2.out)).mono ?_; rintro e w3 ⟨rfl, b⟩; have B3 := Lib.hid (bt B2.out b); have k4 := (b.cell (p := ⟨w.heap.size, 0, none⟩) (World.block_lt_of_cell? _ _ k3)).trans k3; clear b k3)
    | (go_at_call 85; refine (J4.out _).mono ?_; rintro e w4 ⟨rfl, rfl⟩)
    | (go_at_call 94; refine (J5.out _).mono ?_; rintro e w5 ⟨rfl, rfl⟩)
    | (go_at_call 90; refine (J6.out _).mono ?_; rintro e w6 ⟨rfl, b⟩; have B6 := Lib.hid (bt B3.out b); clear b k4)
    | (go_at_call 77; refine (J7.out _ (HV.out.below B6.out)).mono ?_; rintro e w7 ⟨rfl, b⟩; have B7 := Lib.hid (bt B6.out b); clear b))
  go_ret2
  exact ⟨rfl, B7.out⟩
set_option maxRecDepth 100000 in
set_option maxHeartbeats 1600000 in
theorem round_stay_2 (n d fl rs lf : ByteArray) (g o : Bool) (mid : Int) (hz : (rs.toList == [48]) = false) (w : World) (hv : VarT w)
    (H1 : ∀ W, VarT W → Calls Tryz.prog 86 #[.string n, .string d] W (TwoR fl rs 0 W))
    (H2 : ∀ W, VarT W → Calls Tryz.prog 93 #[.string d, .string rs] W (StE lf 0 W))
    (H3 : ∀ W, VarT W → Calls Tryz.prog 44 #[.string rs, .string lf] W (CmpR mid W))
    (H4 : ∀ W, Calls Tryz.prog 85 #[.string n] W (BooR g W))
    (H5 : ∀ W, Calls Tryz.prog 94 #[.string fl] W (BooR o W))
    (H6 : ∀ W, Calls Tryz.prog 90 #[.agg #[.bool g, .bool o, .int .i64 mid]] W (BoA false W)) :
    Calls Tryz.prog 53 #[.agg #[.string n, .string d], .func (.func 90) #[] #[]] w (StE fl 0 w) := by
  have J1 := Lib.hid H1
  have J2 := Lib.hid H2
  have J3 := Lib.hid H3
  have J4 := Lib.hid H4
  have J5 := Lib.hid H5
  have J6 := Lib.hid H6
  have HB := Lib.hid ((Below.refl _ w).alloc (Nat.le_refl _) (.cells #[.string n, .string d] 60))
  have HV := Lib.hid hv
  have HX := row2 (heap_alloc_new w (.cells #[.string n, .string d] 60))
  have HX := Lib.hid HX
  clear H1 H2 H3 H4 H5 H6 hv
  go_enter Tryz.func53, Tryz.ntmps53
  go_wp2_with (first
    | (go_at_call 86; refine (J1.out _ (HV.out.below HB.out)).mono ?_; rintro e w1 ⟨rfl, b⟩; have B1 := Lib.hid (bt HB.out b); obtain ⟨x1, x2, _, _⟩ := HX.out; have k1 := (b.cell (p := ⟨w.heap.size, 0, none⟩) (World.block_lt_of_cell? _ _ x1)).trans x1; have k2 := (b.cell (p := ⟨w.heap.size, 1, none⟩) (World.block_lt_of_cell? _ _ x2)).trans x2; clear b x1 x2)
    | (go_at_call 93; refine (J2.out _ (HV.out.below B1.out)).mono ?_; rintro e w2 ⟨rfl, b⟩; have B2 := Lib.hid (bt B1.out b); have k3 := (b.cell (p := ⟨w.heap.size, 0, none⟩) (World.block_lt_of_cell? _ _ k1)).trans k1; clear b k1 k2)
    | (go_at_call 44; refine (J3.out _ (HV.out.below B2.out)).mono ?_; rintro e w3 ⟨rfl, b⟩; have B3 := Lib.hid (bt B2.out b); have k4 := (b.cell (p := ⟨w.heap.size, 0, none⟩) (World.block_lt_of_cell? _ _ k3)).trans k3; clear b k3)
    | (go_at_call 85; refine (J4.out _).mono ?_; rintro e w4 ⟨rfl, rfl⟩)
    | (go_at_call 94; refine (J5.out _).mono ?_; rintro e w5 ⟨rfl, rfl⟩)
    | (go_at_call 90; refine (J6.out _).mono ?_; rintro e w6 ⟨rfl, b⟩; have B6 := Lib.hid (bt B3.out b); clear b k4))
  go_ret2
  exact ⟨rfl, B6.out⟩
set_option maxRecDepth 100000 in
set_option maxHeartbeats 1600000 in
theorem round_up_3 (n d fl rs lf up : ByteArray) (g o : Bool) (mid : Int) (hz : (rs.toList == [48]) = false) (w : World) (hv : VarT w)
    (H1 : ∀ W, VarT W → Calls Tryz.prog 86 #[.string n, .string d] W (TwoR fl rs 0 W))
    (H2 : ∀ W, VarT W → Calls Tryz.prog 93 #[.string d, .string rs] W (StE lf 0 W))
    (H3 : ∀ W, VarT W → Calls Tryz.prog 44 #[.string rs, .string lf] W (CmpR mid W))
    (H4 : ∀ W, Calls Tryz.prog 85 #[.string n] W (BooR g W))
    (H5 : ∀ W, Calls Tryz.prog 94 #[.string fl] W (BooR o W))
    (H6 : ∀ W, Calls Tryz.prog 91 #[.agg #[.bool g, .bool o, .int .i64 mid]] W (BoA true W))
    (H7 : ∀ W, VarT W → Calls Tryz.prog 77 #[.string fl, .string ⟨#[49]⟩] W (StE up 0 W)) :
    Calls Tryz.prog 53 #[.agg #[.string n, .string d], .func (.func 91) #[] #[]] w (StE up 0 w) := by
  have J1 := Lib.hid H1
  have J2 := Lib.hid H2
  have J3 := Lib.hid H3
  have J4 := Lib.hid H4
  have J5 := Lib.hid H5
  have J6 := Lib.hid H6
  have J7 := Lib.hid H7
  have HB := Lib.hid ((Below.refl _ w).alloc (Nat.le_refl _) (.cells #[.string n, .string d] 60))
  have HV := Lib.hid hv
  have HX := row2 (heap_alloc_new w (.cells #[.string n, .string d] 60))
  have HX := Lib.hid HX
  clear H1 H2 H3 H4 H5 H6 H7 hv
  go_enter Tryz.func53, Tryz.ntmps53
  go_wp2_with (first
    | (go_at_call 86; refine (J1.out _ (HV.out.below HB.out)).mono ?_; rintro e w1 ⟨rfl, b⟩; have B1 := Lib.hid (bt HB.out b); obtain ⟨x1, x2, _, _⟩ := HX.out; have k1 := (b.cell (p := ⟨w.heap.size, 0, none⟩) (World.block_lt_of_cell? _ _ x1)).trans x1; have k2 := (b.cell (p := ⟨w.heap.size, 1, none⟩) (World.block_lt_of_cell? _ _ x2)).trans x2; clear b x1 x2)
    | (go_at_call 93; refine (J2.out _ (HV.out.below B1.out)).mono ?_; rintro e w2 ⟨rfl, b⟩; have B2 := Lib.hid (bt B1.out b); have k3 := (b.cell (p := ⟨w.heap.size, 0, none⟩) (World.block_lt_of_cell? _ _ k1)).trans k1; clear b k1 k2)
    | (go_at_call 44; refine (J3.out _ (HV.out.below B2.out)).mono ?_; rintro e w3 ⟨rfl, b⟩; have B3 := Lib.hid (bt B2.out b); have k4 := (b.cell (p := ⟨w.heap.size, 0, none⟩) (World.block_lt_of_cell? _ _ k3)).trans k3; clear b k3)
    | (go_at_call 85; refine (J4.out _).mono ?_; rintro e w4 ⟨rfl, rfl⟩)
    | (go_at_call 94; refine (J5.out _).mono ?_; rintro e w5 ⟨rfl, rfl⟩)
    | (go_at_call 91; refine (J6.out _).mono ?_; rintro e w6 ⟨rfl, b⟩; have B6 := Lib.hid (bt B3.out b); clear b k4)
    | (go_at_call 77; refine (J7.out _ (HV.out.below B6.out)).mono ?_; rintro e w7 ⟨rfl, b⟩; have B7 := Lib.hid (bt B6.out b); clear b))
  go_ret2
  exact ⟨rfl, B7.out⟩
set_option maxRecDepth 100000 in
set_option maxHeartbeats 1600000 in
theorem round_stay_3 (n d fl rs lf : ByteArray) (g o : Bool) (mid : Int) (hz : (rs.toList == [48]) = false) (w : World) (hv : VarT w)
    (H1 : ∀ W, VarT W → Calls Tryz.prog 86 #[.string n, .string d] W (TwoR fl rs 0 W))
    (H2 : ∀ W, VarT W → Calls Tryz.prog 93 #[.string d, .string rs] W (StE lf 0 W))
    (H3 : ∀ W, VarT W → Calls Tryz.prog 44 #[.string rs, .string lf] W (CmpR mid W))
    (H4 : ∀ W, Calls Tryz.prog 85 #[.string n] W (BooR g W))
    (H5 : ∀ W, Calls Tryz.prog 94 #[.string fl] W (BooR o W))
    (H6 : ∀ W, Calls Tryz.prog 91 #[.agg #[.bool g, .bool o, .int .i64 mid]] W (BoA false W)) :
    Calls Tryz.prog 53 #[.agg #[.string n, .string d], .func (.func 91) #[] #[]] w (StE fl 0 w) := by
  have J1 := Lib.hid H1
  have J2 := Lib.hid H2
  have J3 := Lib.hid H3
  have J4 := Lib.hid H4
  have J5 := Lib.hid H5
  have J6 := Lib.hid H6
  have HB := Lib.hid ((Below.refl _ w).alloc (Nat.le_refl _) (.cells #[.string n, .string d] 60))
  have HV := Lib.hid hv
  have HX := row2 (heap_alloc_new w (.cells #[.string n, .string d] 60))
  have HX := Lib.hid HX
  clear H1 H2 H3 H4 H5 H6 hv
  go_enter Tryz.func53, Tryz.ntmps53
  go_wp2_with (first
    | (go_at_call 86; refine (J1.out _ (HV.out.below HB.out)).mono ?_; rintro e w1 ⟨rfl, b⟩; have B1 := Lib.hid (bt HB.out b); obtain ⟨x1, x2, _, _⟩ := HX.out; have k1 := (b.cell (p := ⟨w.heap.size, 0, none⟩) (World.block_lt_of_cell? _ _ x1)).trans x1; have k2 := (b.cell (p := ⟨w.heap.size, 1, none⟩) (World.block_lt_of_cell? _ _ x2)).trans x2; clear b x1 x2)
    | (go_at_call 93; refine (J2.out _ (HV.out.below B1.out)).mono ?_; rintro e w2 ⟨rfl, b⟩; have B2 := Lib.hid (bt B1.out b); have k3 := (b.cell (p := ⟨w.heap.size, 0, none⟩) (World.block_lt_of_cell? _ _ k1)).trans k1; clear b k1 k2)
    | (go_at_call 44; refine (J3.out _ (HV.out.below B2.out)).mono ?_; rintro e w3 ⟨rfl, b⟩; have B3 := Lib.hid (bt B2.out b); have k4 := (b.cell (p := ⟨w.heap.size, 0, none⟩) (World.block_lt_of_cell? _ _ k3)).trans k3; clear b k3)
    | (go_at_call 85; refine (J4.out _).mono ?_; rintro e w4 ⟨rfl, rfl⟩)
    | (go_at_call 94; refine (J5.out _).mono ?_; rintro e w5 ⟨rfl, rfl⟩)
    | (go_at_call 91; refine (J6.out _).mono ?_; rintro e w6 ⟨rfl, b⟩; have B6 := Lib.hid (bt B3.out b); clear b k4))
  go_ret2
  exact ⟨rfl, B6.out⟩
set_option maxRecDepth 100000 in
set_option maxHeartbeats 1600000 in
theorem round_stay_4 (n d fl rs lf : ByteArray) (g o : Bool) (mid : Int) (hz : (rs.toList == [48]) = false) (w : World) (hv : VarT w)
    (H1 : ∀ W, VarT W → Calls Tryz.prog 86 #[.string n, .string d] W (TwoR fl rs 0 W))
    (H2 : ∀ W, VarT W → Calls Tryz.prog 93 #[.string d, .string rs] W (StE lf 0 W))
    (H3 : ∀ W, VarT W → Calls Tryz.prog 44 #[.string rs, .string lf] W (CmpR mid W))
    (H4 : ∀ W, Calls Tryz.prog 85 #[.string n] W (BooR g W))
    (H5 : ∀ W, Calls Tryz.prog 94 #[.string fl] W (BooR o W))
    (H6 : ∀ W, Calls Tryz.prog 92 #[.agg #[.bool g, .bool o, .int .i64 mid]] W (BoA false W)) :
    Calls Tryz.prog 53 #[.agg #[.string n, .string d], .func (.func 92) #[] #[]] w (StE fl 0 w) := by
  have J1 := Lib.hid H1
  have J2 := Lib.hid H2
  have J3 := Lib.hid H3
  have J4 := Lib.hid H4
  have J5 := Lib.hid H5
  have J6 := Lib.hid H6
  have HB := Lib.hid ((Below.refl _ w).alloc (Nat.le_refl _) (.cells #[.string n, .string d] 60))
  have HV := Lib.hid hv
  have HX := row2 (heap_alloc_new w (.cells #[.string n, .string d] 60))
  have HX := Lib.hid HX
  clear H1 H2 H3 H4 H5 H6 hv
  go_enter Tryz.func53, Tryz.ntmps53
  go_wp2_with (first
    | (go_at_call 86; refine (J1.out _ (HV.out.below HB.out)).mono ?_; rintro e w1 ⟨rfl, b⟩; have B1 := Lib.hid (bt HB.out b); obtain ⟨x1, x2, _, _⟩ := HX.out; have k1 := (b.cell (p := ⟨w.heap.size, 0, none⟩) (World.block_lt_of_cell? _ _ x1)).trans x1; have k2 := (b.cell (p := ⟨w.heap.size, 1, none⟩) (World.block_lt_of_cell? _ _ x2)).trans x2; clear b x1 x2)
    | (go_at_call 93; refine (J2.out _ (HV.out.below B1.out)).mono ?_; rintro e w2 ⟨rfl, b⟩; have B2 := Lib.hid (bt B1.out b); have k3 := (b.cell (p := ⟨w.heap.size, 0, none⟩) (World.block_lt_of_cell? _ _ k1)).trans k1; clear b k1 k2)
    | (go_at_call 44; refine (J3.out _ (HV.out.below B2.out)).mono ?_; rintro e w3 ⟨rfl, b⟩; have B3 := Lib.hid (bt B2.out b); have k4 := (b.cell (p := ⟨w.heap.size, 0, none⟩) (World.block_lt_of_cell? _ _ k3)).trans k3; clear b k3)
    | (go_at_call 85; refine (J4.out _).mono ?_; rintro e w4 ⟨rfl, rfl⟩)
    | (go_at_call 94; refine (J5.out _).mono ?_; rintro e w5 ⟨rfl, rfl⟩)
    | (go_at_call 92; refine (J6.out _).mono ?_; rintro e w6 ⟨rfl, b⟩; have B6 := Lib.hid (bt B3.out b); clear b k4))
  go_ret2
  exact ⟨rfl, B6.out⟩
set_option maxRecDepth 100000 in
set_option maxHeartbeats 1600000 in
theorem Round_mode (s : ByteArray) (m : Int) (h5 : 5 ≤ m) (h255 : m ≤ 255) (w : World) :
    Calls Tryz.prog 21 #[.string s, .int .u8 m] w (StE ⟨#[]⟩ 2 w) := by
  have HR := Lib.hid roundings_any
  go_enter Tryz.func21, Tryz.ntmps21
  go_wp2_with (go_at_call 52; refine (HR.out _).mono ?_; rintro e w1 ⟨rfl, b⟩; have B1 := Lib.hid (fun o => b.alloc b.size o); clear b)
  go_ret2
  exact ⟨rfl, B1.out _⟩
set_option maxRecDepth 100000 in
set_option maxHeartbeats 1600000 in
theorem Round_parse (s a d : ByteArray) (m c : Int) (h0 : 0 ≤ m) (h5 : m ≤ 4) (hc : ¬ c = 0) (w : World) (hv : VarR w)
    (H : ∀ W, VarR W → Calls Tryz.prog 38 #[.string s] W (PrsR a d c W)) :
    Calls Tryz.prog 21 #[.string s, .int .u8 m] w (StE ⟨#[]⟩ c w) := by
  have HR := Lib.hid roundings_any
  have J := Lib.hid H
  have HV := Lib.hid hv
  have hz : (c == 0) = false := by rw [beq_eq_false_iff_ne]; exact hc
  clear hc H hv
  go_enter Tryz.func21, Tryz.ntmps21
  go_wp2_with (first
    | (go_at_call 52; refine (HR.out _).mono ?_; rintro e w1 ⟨rfl, b⟩; have B1 := Lib.hid (fun o => b.alloc b.size o); clear b)
    | (go_at_call 38; refine (J.out _ (HV.out.below (B1.out _))).mono ?_; rintro e w2 ⟨rfl, b⟩; have B2 := Lib.hid (bt (B1.out (.cells #[.func (.func 88) #[] #[], .func (.func 89) #[] #[], .func (.func 90) #[] #[], .func (.func 91) #[] #[], .func (.func 92) #[] #[]] 80)) b); clear b))
  go_ret2
  exact ⟨rfl, B2.out.alloc B2.out.size _⟩
set_option maxRecDepth 100000 in
set_option maxHeartbeats 1600000 in
theorem Round_0 (s a d R : ByteArray) (w : World) (hv : VarR w)
    (H : ∀ W, VarR W → Calls Tryz.prog 38 #[.string s] W (PrsR a d 0 W))
    (H2 : ∀ W, VarT W → Calls Tryz.prog 53 #[.agg #[.string a, .string d], .func (.func 88) #[] #[]] W (StE R 0 W)) :
    Calls Tryz.prog 21 #[.string s, .int .u8 0] w (StE R 0 w) := by
  have HR := Lib.hid roundings_any
  have J := Lib.hid H
  have J2 := Lib.hid H2
  have HV := Lib.hid hv
  clear H H2 hv
  go_enter Tryz.func21, Tryz.ntmps21
  go_wp2_with (first
    | (go_at_call 52; refine (HR.out _).mono ?_; rintro e w1 ⟨rfl, b⟩; have B1 := Lib.hid (b.alloc b.size (.cells #[.func (.func 88) #[] #[], .func (.func 89) #[] #[], .func (.func 90) #[] #[], .func (.func 91) #[] #[], .func (.func 92) #[] #[]] 80)); have G1 := Lib.hid (heap_alloc_new w1 (.cells #[.func (.func 88) #[] #[], .func (.func 89) #[] #[], .func (.func 90) #[] #[], .func (.func 91) #[] #[], .func (.func 92) #[] #[]] 80)); clear b)
    | (go_at_call 38; refine (J.out _ (HV.out.below B1.out)).mono ?_; rintro e w2 ⟨rfl, b⟩; have B2 := Lib.hid (bt B1.out b); have G2 := Lib.hid ((b.block _ (lt_of_block G1.out)).trans G1.out); clear b))
  have B3 := B2.out.alloc B2.out.size (.cells #[.string a, .string d] 60)
  obtain ⟨k1, k2, _, _⟩ := row2 (heap_alloc_new w2 (.cells #[.string a, .string d] 60))
  have k3 : (w2.alloc (.cells #[.string a, .string d] 60)).cell? ⟨w1.heap.size, 0, none⟩ = some (.func (.func 88) #[] #[]) := by
    rw [cell_of_row _ _ _ _ _ _ ((heap_alloc_old w2 _ (lt_of_block G2.out)).trans G2.out)]; rfl
  generalize w2.alloc (.cells #[.string a, .string d] 60) = w3 at *
  go_region_held3 (fun w' => w'.cell? ⟨w2.heap.size, 0, none⟩ = some (.string a) ∧ w'.cell? ⟨w2.heap.size, 1, none⟩ = some (.string d) ∧ w'.cell? ⟨w1.heap.size, 0, none⟩ = some (.func (.func 88) #[] #[]))
    (((try go_split_ands); (and_intros) <;> first | assumption | (refine (b4.cell ?_).trans ?_; exact (World.block_lt_of_cell? _ _ (by assumption)); assumption) | (go_keep; done)))
    (first
      | (go_split_ands; go_at_call 53; refine (J2.out _ (HV.out.below (Below.drew B3)).t).mono ?_; rintro e w4 ⟨rfl, b4⟩; have B4 := bt (Below.drew B3) b4))
  go_wp2
  go_ret2
  exact ⟨rfl, B4⟩
set_option maxRecDepth 100000 in
set_option maxHeartbeats 1600000 in
theorem Round_1 (s a d R : ByteArray) (w : World) (hv : VarR w)
    (H : ∀ W, VarR W → Calls Tryz.prog 38 #[.string s] W (PrsR a d 0 W))
    (H2 : ∀ W, VarT W → Calls Tryz.prog 53 #[.agg #[.string a, .string d], .func (.func 89) #[] #[]] W (StE R 0 W)) :
    Calls Tryz.prog 21 #[.string s, .int .u8 1] w (StE R 0 w) := by
  have HR := Lib.hid roundings_any
  have J := Lib.hid H
  have J2 := Lib.hid H2
  have HV := Lib.hid hv
  clear H H2 hv
  go_enter Tryz.func21, Tryz.ntmps21
  go_wp2_with (first
    | (go_at_call 52; refine (HR.out _).mono ?_; rintro e w1 ⟨rfl, b⟩; have B1 := Lib.hid (b.alloc b.size (.cells #[.func (.func 88) #[] #[], .func (.func 89) #[] #[], .func (.func 90) #[] #[], .func (.func 91) #[] #[], .func (.func 92) #[] #[]] 80)); have G1 := Lib.hid (heap_alloc_new w1 (.cells #[.func (.func 88) #[] #[], .func (.func 89) #[] #[], .func (.func 90) #[] #[], .func (.func 91) #[] #[], .func (.func 92) #[] #[]] 80)); clear b)
    | (go_at_call 38; refine (J.out _ (HV.out.below B1.out)).mono ?_; rintro e w2 ⟨rfl, b⟩; have B2 := Lib.hid (bt B1.out b); have G2 := Lib.hid ((b.block _ (lt_of_block G1.out)).trans G1.out); clear b))
  have B3 := B2.out.alloc B2.out.size (.cells #[.string a, .string d] 60)
  obtain ⟨k1, k2, _, _⟩ := row2 (heap_alloc_new w2 (.cells #[.string a, .string d] 60))
  have k3 : (w2.alloc (.cells #[.string a, .string d] 60)).cell? ⟨w1.heap.size, 1, none⟩ = some (.func (.func 89) #[] #[]) := by
    rw [cell_of_row _ _ _ _ _ _ ((heap_alloc_old w2 _ (lt_of_block G2.out)).trans G2.out)]; rfl
  generalize w2.alloc (.cells #[.string a, .string d] 60) = w3 at *
  go_region_held3 (fun w' => w'.cell? ⟨w2.heap.size, 0, none⟩ = some (.string a) ∧ w'.cell? ⟨w2.heap.size, 1, none⟩ = some (.string d) ∧ w'.cell? ⟨w1.heap.size, 1, none⟩ = some (.func (.func 89) #[] #[]))
    (((try go_split_ands); (and_intros) <;> first | assumption | (refine (b4.cell ?_).trans ?_; exact (World.block_lt_of_cell? _ _ (by assumption)); assumption) | (go_keep; done)))
    (first
      | (go_split_ands; go_at_call 53; refine (J2.out _ (HV.out.below (Below.drew B3)).t).mono ?_; rintro e w4 ⟨rfl, b4⟩; have B4 := bt (Below.drew B3) b4))
  go_wp2
  go_ret2
  exact ⟨rfl, B4⟩
set_option maxRecDepth 100000 in
set_option maxHeartbeats 1600000 in
theorem Round_2 (s a d R : ByteArray) (w : World) (hv : VarR w)
    (H : ∀ W, VarR W → Calls Tryz.prog 38 #[.string s] W (PrsR a d 0 W))
    (H2 : ∀ W, VarT W → Calls Tryz.prog 53 #[.agg #[.string a, .string d], .func (.func 90) #[] #[]] W (StE R 0 W)) :
    Calls Tryz.prog 21 #[.string s, .int .u8 2] w (StE R 0 w) := by
  have HR := Lib.hid roundings_any
  have J := Lib.hid H
  have J2 := Lib.hid H2
  have HV := Lib.hid hv
  clear H H2 hv
  go_enter Tryz.func21, Tryz.ntmps21
  go_wp2_with (first
    | (go_at_call 52; refine (HR.out _).mono ?_; rintro e w1 ⟨rfl, b⟩; have B1 := Lib.hid (b.alloc b.size (.cells #[.func (.func 88) #[] #[], .func (.func 89) #[] #[], .func (.func 90) #[] #[], .func (.func 91) #[] #[], .func (.func 92) #[] #[]] 80)); have G1 := Lib.hid (heap_alloc_new w1 (.cells #[.func (.func 88) #[] #[], .func (.func 89) #[] #[], .func (.func 90) #[] #[], .func (.func 91) #[] #[], .func (.func 92) #[] #[]] 80)); clear b)
    | (go_at_call 38; refine (J.out _ (HV.out.below B1.out)).mono ?_; rintro e w2 ⟨rfl, b⟩; have B2 := Lib.hid (bt B1.out b); have G2 := Lib.hid ((b.block _ (lt_of_block G1.out)).trans G1.out); clear b))
  have B3 := B2.out.alloc B2.out.size (.cells #[.string a, .string d] 60)
  obtain ⟨k1, k2, _, _⟩ := row2 (heap_alloc_new w2 (.cells #[.string a, .string d] 60))
  have k3 : (w2.alloc (.cells #[.string a, .string d] 60)).cell? ⟨w1.heap.size, 2, none⟩ = some (.func (.func 90) #[] #[]) := by
    rw [cell_of_row _ _ _ _ _ _ ((heap_alloc_old w2 _ (lt_of_block G2.out)).trans G2.out)]; rfl
  generalize w2.alloc (.cells #[.string a, .string d] 60) = w3 at *
  go_region_held3 (fun w' => w'.cell? ⟨w2.heap.size, 0, none⟩ = some (.string a) ∧ w'.cell? ⟨w2.heap.size, 1, none⟩ = some (.string d) ∧ w'.cell? ⟨w1.heap.size, 2, none⟩ = some (.func (.func 90) #[] #[]))
    (((try go_split_ands); (and_intros) <;> first | assumption | (refine (b4.cell ?_).trans ?_; exact (World.block_lt_of_cell? _ _ (by assumption)); assumption) | (go_keep; done)))
    (first
      | (go_split_ands; go_at_call 53; refine (J2.out _ (HV.out.below (Below.drew B3)).t).mono ?_; rintro e w4 ⟨rfl, b4⟩; have B4 := bt (Below.drew B3) b4))
  go_wp2
  go_ret2
  exact ⟨rfl, B4⟩
set_option maxRecDepth 100000 in
set_option maxHeartbeats 1600000 in
theorem Round_3 (s a d R : ByteArray) (w : World) (hv : VarR w)
    (H : ∀ W, VarR W → Calls Tryz.prog 38 #[.string s] W (PrsR a d 0 W))
    (H2 : ∀ W, VarT W → Calls Tryz.prog 53 #[.agg #[.string a, .string d], .func (.func 91) #[] #[]] W (StE R 0 W)) :
    Calls Tryz.prog 21 #[.string s, .int .u8 3] w (StE R 0 w) := by
  have HR := Lib.hid roundings_any
  have J := Lib.hid H
  have J2 := Lib.hid H2
  have HV := Lib.hid hv
  clear H H2 hv
  go_enter Tryz.func21, Tryz.ntmps21
  go_wp2_with (first
    | (go_at_call 52; refine (HR.out _).mono ?_; rintro e w1 ⟨rfl, b⟩; have B1 := Lib.hid (b.alloc b.size (.cells #[.func (.func 88) #[] #[], .func (.func 89) #[] #[], .func (.func 90) #[] #[], .func (.func 91) #[] #[], .func (.func 92) #[] #[]] 80)); have G1 := Lib.hid (heap_alloc_new w1 (.cells #[.func (.func 88) #[] #[], .func (.func 89) #[] #[], .func (.func 90) #[] #[], .func (.func 91) #[] #[], .func (.func 92) #[] #[]] 80)); clear b)
    | (go_at_call 38; refine (J.out _ (HV.out.below B1.out)).mono ?_; rintro e w2 ⟨rfl, b⟩; have B2 := Lib.hid (bt B1.out b); have G2 := Lib.hid ((b.block _ (lt_of_block G1.out)).trans G1.out); clear b))
  have B3 := B2.out.alloc B2.out.size (.cells #[.string a, .string d] 60)
  obtain ⟨k1, k2, _, _⟩ := row2 (heap_alloc_new w2 (.cells #[.string a, .string d] 60))
  have k3 : (w2.alloc (.cells #[.string a, .string d] 60)).cell? ⟨w1.heap.size, 3, none⟩ = some (.func (.func 91) #[] #[]) := by
    rw [cell_of_row _ _ _ _ _ _ ((heap_alloc_old w2 _ (lt_of_block G2.out)).trans G2.out)]; rfl
  generalize w2.alloc (.cells #[.string a, .string d] 60) = w3 at *
  go_region_held3 (fun w' => w'.cell? ⟨w2.heap.size, 0, none⟩ = some (.string a) ∧ w'.cell? ⟨w2.heap.size, 1, none⟩ = some (.string d) ∧ w'.cell? ⟨w1.heap.size, 3, none⟩ = some (.func (.func 91) #[] #[]))
    (((try go_split_ands); (and_intros) <;> first | assumption | (refine (b4.cell ?_).trans ?_; exact (World.block_lt_of_cell? _ _ (by assumption)); assumption) | (go_keep; done)))
    (first
      | (go_split_ands; go_at_call 53; refine (J2.out _ (HV.out.below (Below.drew B3)).t).mono ?_; rintro e w4 ⟨rfl, b4⟩; have B4 := bt (Below.drew B3) b4))
  go_wp2
  go_ret2
  exact ⟨rfl, B4⟩
set_option maxRecDepth 100000 in
set_option maxHeartbeats 1600000 in
theorem Round_4 (s a d R : ByteArray) (w : World) (hv : VarR w)
    (H : ∀ W, VarR W → Calls Tryz.prog 38 #[.string s] W (PrsR a d 0 W))
    (H2 : ∀ W, VarT W → Calls Tryz.prog 53 #[.agg #[.string a, .string d], .func (.func 92) #[] #[]] W (StE R 0 W)) :
    Calls Tryz.prog 21 #[.string s, .int .u8 4] w (StE R 0 w) := by
  have HR := Lib.hid roundings_any
  have J := Lib.hid H
  have J2 := Lib.hid H2
  have HV := Lib.hid hv
  clear H H2 hv
  go_enter Tryz.func21, Tryz.ntmps21
  go_wp2_with (first
    | (go_at_call 52; refine (HR.out _).mono ?_; rintro e w1 ⟨rfl, b⟩; have B1 := Lib.hid (b.alloc b.size (.cells #[.func (.func 88) #[] #[], .func (.func 89) #[] #[], .func (.func 90) #[] #[], .func (.func 91) #[] #[], .func (.func 92) #[] #[]] 80)); have G1 := Lib.hid (heap_alloc_new w1 (.cells #[.func (.func 88) #[] #[], .func (.func 89) #[] #[], .func (.func 90) #[] #[], .func (.func 91) #[] #[], .func (.func 92) #[] #[]] 80)); clear b)
    | (go_at_call 38; refine (J.out _ (HV.out.below B1.out)).mono ?_; rintro e w2 ⟨rfl, b⟩; have B2 := Lib.hid (bt B1.out b); have G2 := Lib.hid ((b.block _ (lt_of_block G1.out)).trans G1.out); clear b))
  have B3 := B2.out.alloc B2.out.size (.cells #[.string a, .string d] 60)
  obtain ⟨k1, k2, _, _⟩ := row2 (heap_alloc_new w2 (.cells #[.string a, .string d] 60))
  have k3 : (w2.alloc (.cells #[.string a, .string d] 60)).cell? ⟨w1.heap.size, 4, none⟩ = some (.func (.func 92) #[] #[]) := by
    rw [cell_of_row _ _ _ _ _ _ ((heap_alloc_old w2 _ (lt_of_block G2.out)).trans G2.out)]; rfl
  generalize w2.alloc (.cells #[.string a, .string d] 60) = w3 at *
  go_region_held3 (fun w' => w'.cell? ⟨w2.heap.size, 0, none⟩ = some (.string a) ∧ w'.cell? ⟨w2.heap.size, 1, none⟩ = some (.string d) ∧ w'.cell? ⟨w1.heap.size, 4, none⟩ = some (.func (.func 92) #[] #[]))
    (((try go_split_ands); (and_intros) <;> first | assumption | (refine (b4.cell ?_).trans ?_; exact (World.block_lt_of_cell? _ _ (by assumption)); assumption) | (go_keep; done)))
    (first
      | (go_split_ands; go_at_call 53; refine (J2.out _ (HV.out.below (Below.drew B3)).t).mono ?_; rintro e w4 ⟨rfl, b4⟩; have B4 := bt (Below.drew B3) b4))
  go_wp2
  go_ret2
  exact ⟨rfl, B4⟩
end Go.Proofs.YtgjhgkglfflmjaaGreatDoor

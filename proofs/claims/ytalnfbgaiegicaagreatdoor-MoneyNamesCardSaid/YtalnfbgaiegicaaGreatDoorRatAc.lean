/- Joined: RatAc, RatAd, RatAe. -/
import Derived.Test.YtalnfbgaiegicaaGreatDoorRatAa
import Derived.Laws.EntriesVeiled
/- The walks of layer 2: the rules of rounding. -/
namespace Go.Proofs.YtalnfbgaiegicaaGreatDoor
open Go Go.RowKit

/-- Does rule m round up a number below or above 0, with an odd floor, whose rest compares so to what is left? -/
def upB (m : Nat) (neg odd : Bool) (mid : Int) : Bool :=
  match m with
  | 0 => neg
  | 1 => !neg
  | 2 => decide (0 < mid) || (decide (mid = 0) && !neg)
  | 3 => decide (0 < mid) || (decide (mid = 0) && odd)
  | _ => false
def BoA (b : Bool) (w : World) (e : Ending) (w' : World) : Prop := e = .returned (.bool b) ∧ Below w.heap.size w w'
theorem above_0 (g o : Bool) (mid : Int) (w : World) : Calls Tryz.prog 115 #[.agg #[.bool g, .bool o, .int .i64 mid]] w (BoA (upB 0 g o mid) w) := by
  show Calls _ _ _ _ (BoA g w)
  go_enter Tryz.func115, Tryz.ntmps115
  go_wp2
  go_ret
  exact ⟨rfl, (Below.refl _ _).alloc (Nat.le_refl _) _⟩
theorem above_1 (g o : Bool) (mid : Int) (w : World) : Calls Tryz.prog 116 #[.agg #[.bool g, .bool o, .int .i64 mid]] w (BoA (upB 1 g o mid) w) := by
  show Calls _ _ _ _ (BoA (!g) w)
  go_enter Tryz.func116, Tryz.ntmps116
  go_wp2
  go_ret
  exact ⟨rfl, (Below.refl _ _).alloc (Nat.le_refl _) _⟩
theorem above_2 (g o : Bool) (mid : Int) (hm : mid = -1 ∨ mid = 0 ∨ mid = 1) (w : World) : Calls Tryz.prog 117 #[.agg #[.bool g, .bool o, .int .i64 mid]] w (BoA (upB 2 g o mid) w) := by
  rcases hm with rfl | rfl | rfl <;> cases g
  all_goals
    go_enter Tryz.func117, Tryz.ntmps117
    go_wp2
    go_ret
    exact ⟨rfl, (Below.refl _ _).alloc (Nat.le_refl _) _⟩
theorem above_3 (g o : Bool) (mid : Int) (hm : mid = -1 ∨ mid = 0 ∨ mid = 1) (w : World) : Calls Tryz.prog 118 #[.agg #[.bool g, .bool o, .int .i64 mid]] w (BoA (upB 3 g o mid) w) := by
  rcases hm with rfl | rfl | rfl <;> cases o
  all_goals
    go_enter Tryz.func118, Tryz.ntmps118
    go_wp2
    go_ret
    exact ⟨rfl, (Below.refl _ _).alloc (Nat.le_refl _) _⟩
theorem above_4 (g o : Bool) (mid : Int) (w : World) : Calls Tryz.prog 119 #[.agg #[.bool g, .bool o, .int .i64 mid]] w (BoA (upB 4 g o mid) w) := by
  show Calls _ _ _ _ (BoA false w)
  go_enter Tryz.func119, Tryz.ntmps119
  go_wp2
  go_ret
  exact ⟨rfl, (Below.refl _ _).alloc (Nat.le_refl _) _⟩
def RosR (w : World) (e : Ending) (w' : World) : Prop := e = .returned (.agg #[.func (.func 115) #[] #[], .func (.func 116) #[] #[], .func (.func 117) #[] #[], .func (.func 118) #[] #[], .func (.func 119) #[] #[]]) ∧ Below w.heap.size w w'
set_option maxHeartbeats 800000 in
theorem roundings_any (w : World) : Calls Tryz.prog 65 #[] w (RosR w) := by
  have hb := Lib.hid (fun o => (Below.refl _ w).alloc (Nat.le_refl _) o)
  have hr := Lib.hid (fun o => heap_alloc_new w o)
  have hoc : ∀ k, (Value.func (.func k) #[] #[]).oneCell' = true := fun _ => rfl
  go_enter Tryz.func65, Tryz.ntmps65
  go_wp2
  refine bodyPost_ret (v := .agg #[.func (.func 115) #[] #[], .func (.func 116) #[] #[], .func (.func 117) #[] #[], .func (.func 118) #[] #[], .func (.func 119) #[] #[]]) (results_cell_row rfl _ _ w.heap.size 98 _ (0, 0) _ rfl (hr.out _) Tryz.underlying98 (by kernel_rfl) (by kernel_rfl)) rfl ⟨rfl, hb.out _⟩
set_option maxHeartbeats 800000 in
theorem odd_any (s : ByteArray) (c : UInt8) (n : Nat) (hn : s.size = n + 1) (hn2 : n ≤ 1000000) (hc : ∀ h : n < s.size, s[n] = c) (b : Bool) (h48 : 48 ≤ c.toNat) (h57 : c.toNat ≤ 57) (hb : (((c.toNat : Int) - 48) % 2 == 1) = b) (w : World) :
    Calls Tryz.prog 122 #[.string s] w (BooR b w) := by
  have hlt : n < s.size := by omega
  have hcc := hc hlt
  have HB := Lib.hid hb
  have h1 : (48 : Int) ≤ (c.toNat : Int) := by omega
  have h2 : (c.toNat : Int) ≤ 57 := by omega
  have hz : (s.size : Int) - 1 = (n : Int) := by omega
  clear hb hc h48 h57
  go_enter Tryz.func122, Tryz.ntmps122
  go_wp2
  go_ret
  exact ⟨ret_bool HB.out, rfl⟩
end Go.Proofs.YtalnfbgaiegicaaGreatDoor
/- The walks of layer 2: round, Round. -/
namespace Go.Proofs.YtalnfbgaiegicaaGreatDoor
open Go Go.RowKit

set_option maxRecDepth 100000 in
set_option maxHeartbeats 1600000 in
theorem round_zero (K : Nat) (n d fl rs : ByteArray) (hz : (rs.toList == [48]) = true) (w : World) (hv : VarT w)
    (H1 : ∀ W, VarT W → Calls Tryz.prog 120 #[.string n, .string d] W (TwoR fl rs 0 W)) :
    Calls Tryz.prog 66 #[.agg #[.string n, .string d], .func (.func K) #[] #[]] w (StE fl 0 w) := by
  have J1 := Lib.hid H1
  have HB := Lib.hid ((Below.refl _ w).alloc (Nat.le_refl _) (.cells #[.string n, .string d] 87))
  have HV := Lib.hid (hv.below HB.out)
  clear H1 hv
  go_enter Tryz.func66, Tryz.ntmps66
  go_wp2_with (go_at_call 120; refine (J1.out _ HV.out).mono ?_; rintro e w1 ⟨rfl, b⟩; have B1 := Lib.hid (bt HB.out b); clear b)
  go_ret2
  exact ⟨rfl, B1.out⟩
set_option maxRecDepth 100000 in
set_option maxHeartbeats 1600000 in
theorem round_up_0 (n d fl rs lf up : ByteArray) (g o : Bool) (mid : Int) (hz : (rs.toList == [48]) = false) (w : World) (hv : VarT w)
    (H1 : ∀ W, VarT W → Calls Tryz.prog 120 #[.string n, .string d] W (TwoR fl rs 0 W))
    (H2 : ∀ W, VarT W → Calls Tryz.prog 104 #[.string d, .string rs] W (StE lf 0 W))
    (H3 : ∀ W, VarT W → Calls Tryz.prog 60 #[.string rs, .string lf] W (CmpR mid W))
    (H4 : ∀ W, Calls Tryz.prog 121 #[.string n] W (BooR g W))
    (H5 : ∀ W, Calls Tryz.prog 122 #[.string fl] W (BooR o W))
    (H6 : ∀ W, Calls Tryz.prog 115 #[.agg #[.bool g, .bool o, .int .i64 mid]] W (BoA true W))
    (H7 : ∀ W, VarT W → Calls Tryz.prog 123 #[.string fl, .string ⟨#[49]⟩] W (StE up 0 W)) :
    Calls Tryz.prog 66 #[.agg #[.string n, .string d], .func (.func 115) #[] #[]] w (StE up 0 w) := by
  have J1 := Lib.hid H1
  have J2 := Lib.hid H2
  have J3 := Lib.hid H3
  have J4 := Lib.hid H4
  have J5 := Lib.hid H5
  have J6 := Lib.hid H6
  have J7 := Lib.hid H7
  have HB := Lib.hid ((Below.refl _ w).alloc (Nat.le_refl _) (.cells #[.string n, .string d] 87))
  have HV := Lib.hid hv
  have HX := row2 (heap_alloc_new w (.cells #[.string n, .string d] 87))
  have HX := Lib.hid HX
  clear H1 H2 H3 H4 H5 H6 H7 hv
  go_enter Tryz.func66, Tryz.ntmps66
  go_wp2_with (first
    | (go_at_call 120; refine (J1.out _ (HV.out.below HB.out)).mono ?_; rintro e w1 ⟨rfl, b⟩; have B1 := Lib.hid (bt HB.out b); obtain ⟨x1, x2, _, _⟩ := HX.out; have k1 := (b.cell (p := ⟨w.heap.size, 0, none⟩) (World.block_lt_of_cell? _ _ x1)).trans x1; have k2 := (b.cell (p := ⟨w.heap.size, 1, none⟩) (World.block_lt_of_cell? _ _ x2)).trans x2; clear b x1 x2)
    | (go_at_call 104; refine (J2.out _ (HV.out.below B1.out)).mono ?_; rintro e w2 ⟨rfl, b⟩; have B2 := Lib.hid (bt B1.out b); have k3 := (b.cell (p := ⟨w.heap.size, 0, none⟩) (World.block_lt_of_cell? _ _ k1)).trans k1; clear b k1 k2)
    | (go_at_call 60; refine (J3.out _ (HV.out.below B2.out)).mono ?_; rintro e w3 ⟨rfl, b⟩; have B3 := Lib.hid (bt B2.out b); have k4 := (b.cell (p := ⟨w.heap.size, 0, none⟩) (World.block_lt_of_cell? _ _ k3)).trans k3; clear b k3)
    | (go_at_call 121; refine (J4.out _).mono ?_; rintro e w4 ⟨rfl, rfl⟩)
    | (go_at_call 122; refine (J5.out _).mono ?_; rintro e w5 ⟨rfl, rfl⟩)
    | (go_at_call 115; refine (J6.out _).mono ?_; rintro e w6 ⟨rfl, b⟩; have B6 := Lib.hid (bt B3.out b); clear b k4)
    | (go_at_call 123; refine (J7.out _ (HV.out.below B6.out)).mono ?_; rintro e w7 ⟨rfl, b⟩; have B7 := Lib.hid (bt B6.out b); clear b))
  go_ret2
  exact ⟨rfl, B7.out⟩
set_option maxRecDepth 100000 in
set_option maxHeartbeats 1600000 in
theorem round_stay_0 (n d fl rs lf : ByteArray) (g o : Bool) (mid : Int) (hz : (rs.toList == [48]) = false) (w : World) (hv : VarT w)
    (H1 : ∀ W, VarT W → Calls Tryz.prog 120 #[.string n, .string d] W (TwoR fl rs 0 W))
    (H2 : ∀ W, VarT W → Calls Tryz.prog 104 #[.string d, .string rs] W (StE lf 0 W))
    (H3 : ∀ W, VarT W → Calls Tryz.prog 60 #[.string rs, .string lf] W (CmpR mid W))
    (H4 : ∀ W, Calls Tryz.prog 121 #[.string n] W (BooR g W))
    (H5 : ∀ W, Calls Tryz.prog 122 #[.string fl] W (BooR o W))
    (H6 : ∀ W, Calls Tryz.prog 115 #[.agg #[.bool g, .bool o, .int .i64 mid]] W (BoA false W)) :
    Calls Tryz.prog 66 #[.agg #[.string n, .string d], .func (.func 115) #[] #[]] w (StE fl 0 w) := by
  have J1 := Lib.hid H1
  have J2 := Lib.hid H2
  have J3 := Lib.hid H3
  have J4 := Lib.hid H4
  have J5 := Lib.hid H5
  have J6 := Lib.hid H6
  have HB := Lib.hid ((Below.refl _ w).alloc (Nat.le_refl _) (.cells #[.string n, .string d] 87))
  have HV := Lib.hid hv
  have HX := row2 (heap_alloc_new w (.cells #[.string n, .string d] 87))
  have HX := Lib.hid HX
  clear H1 H2 H3 H4 H5 H6 hv
  go_enter Tryz.func66, Tryz.ntmps66
  go_wp2_with (first
    | (go_at_call 120; refine (J1.out _ (HV.out.below HB.out)).mono ?_; rintro e w1 ⟨rfl, b⟩; have B1 := Lib.hid (bt HB.out b); obtain ⟨x1, x2, _, _⟩ := HX.out; have k1 := (b.cell (p := ⟨w.heap.size, 0, none⟩) (World.block_lt_of_cell? _ _ x1)).trans x1; have k2 := (b.cell (p := ⟨w.heap.size, 1, none⟩) (World.block_lt_of_cell? _ _ x2)).trans x2; clear b x1 x2)
    | (go_at_call 104; refine (J2.out _ (HV.out.below B1.out)).mono ?_; rintro e w2 ⟨rfl, b⟩; have B2 := Lib.hid (bt B1.out b); have k3 := (b.cell (p := ⟨w.heap.size, 0, none⟩) (World.block_lt_of_cell? _ _ k1)).trans k1; clear b k1 k2)
    | (go_at_call 60; refine (J3.out _ (HV.out.below B2.out)).mono ?_; rintro e w3 ⟨rfl, b⟩; have B3 := Lib.hid (bt B2.out b); have k4 := (b.cell (p := ⟨w.heap.size, 0, none⟩) (World.block_lt_of_cell? _ _ k3)).trans k3; clear b k3)
    | (go_at_call 121; refine (J4.out _).mono ?_; rintro e w4 ⟨rfl, rfl⟩)
    | (go_at_call 122; refine (J5.out _).mono ?_; rintro e w5 ⟨rfl, rfl⟩)
    | (go_at_call 115; refine (J6.out _).mono ?_; rintro e w6 ⟨rfl, b⟩; have B6 := Lib.hid (bt B3.out b); clear b k4))
  go_ret2
  exact ⟨rfl, B6.out⟩
set_option maxRecDepth 100000 in
set_option maxHeartbeats 1600000 in
theorem round_up_1 (n d fl rs lf up : ByteArray) (g o : Bool) (mid : Int) (hz : (rs.toList == [48]) = false) (w : World) (hv : VarT w)
    (H1 : ∀ W, VarT W → Calls Tryz.prog 120 #[.string n, .string d] W (TwoR fl rs 0 W))
    (H2 : ∀ W, VarT W → Calls Tryz.prog 104 #[.string d, .string rs] W (StE lf 0 W))
    (H3 : ∀ W, VarT W → Calls Tryz.prog 60 #[.string rs, .string lf] W (CmpR mid W))
    (H4 : ∀ W, Calls Tryz.prog 121 #[.string n] W (BooR g W))
    (H5 : ∀ W, Calls Tryz.prog 122 #[.string fl] W (BooR o W))
    (H6 : ∀ W, Calls Tryz.prog 116 #[.agg #[.bool g, .bool o, .int .i64 mid]] W (BoA true W))
    (H7 : ∀ W, VarT W → Calls Tryz.prog 123 #[.string fl, .string ⟨#[49]⟩] W (StE up 0 W)) :
    Calls Tryz.prog 66 #[.agg #[.string n, .string d], .func (.func 116) #[] #[]] w (StE up 0 w) := by
  have J1 := Lib.hid H1
  have J2 := Lib.hid H2
  have J3 := Lib.hid H3
  have J4 := Lib.hid H4
  have J5 := Lib.hid H5
  have J6 := Lib.hid H6
  have J7 := Lib.hid H7
  have HB := Lib.hid ((Below.refl _ w).alloc (Nat.le_refl _) (.cells #[.string n, .string d] 87))
  have HV := Lib.hid hv
  have HX := row2 (heap_alloc_new w (.cells #[.string n, .string d] 87))
  have HX := Lib.hid HX
  clear H1 H2 H3 H4 H5 H6 H7 hv
  go_enter Tryz.func66, Tryz.ntmps66
  go_wp2_with (first
    | (go_at_call 120; refine (J1.out _ (HV.out.below HB.out)).mono ?_; rintro e w1 ⟨rfl, b⟩; have B1 := Lib.hid (bt HB.out b); obtain ⟨x1, x2, _, _⟩ := HX.out; have k1 := (b.cell (p := ⟨w.heap.size, 0, none⟩) (World.block_lt_of_cell? _ _ x1)).trans x1; have k2 := (b.cell (p := ⟨w.heap.size, 1, none⟩) (World.block_lt_of_cell? _ _ x2)).trans x2; clear b x1 x2)
    | (go_at_call 104; refine (J2.out _ (HV.out.below B1.out)).mono ?_; rintro e w2 ⟨rfl, b⟩; have B2 := Lib.hid (bt B1.out b); have k3 := (b.cell (p := ⟨w.heap.size, 0, none⟩) (World.block_lt_of_cell? _ _ k1)).trans k1; clear b k1 k2)
    | (go_at_call 60; refine (J3.out _ (HV.out.below B2.out)).mono ?_; rintro e w3 ⟨rfl, b⟩; have B3 := Lib.hid (bt B2.out b); have k4 := (b.cell (p := ⟨w.heap.size, 0, none⟩) (World.block_lt_of_cell? _ _ k3)).trans k3; clear b k3)
    | (go_at_call 121; refine (J4.out _).mono ?_; rintro e w4 ⟨rfl, rfl⟩)
    | (go_at_call 122; refine (J5.out _).mono ?_; rintro e w5 ⟨rfl, rfl⟩)
    | (go_at_call 116; refine (J6.out _).mono ?_; rintro e w6 ⟨rfl, b⟩; have B6 := Lib.hid (bt B3.out b); clear b k4)
    | (go_at_call 123; refine (J7.out _ (HV.out.below B6.out)).mono ?_; rintro e w7 ⟨rfl, b⟩; have B7 := Lib.hid (bt B6.out b); clear b))
  go_ret2
  exact ⟨rfl, B7.out⟩
set_option maxRecDepth 100000 in
set_option maxHeartbeats 1600000 in
theorem round_stay_1 (n d fl rs lf : ByteArray) (g o : Bool) (mid : Int) (hz : (rs.toList == [48]) = false) (w : World) (hv : VarT w)
    (H1 : ∀ W, VarT W → Calls Tryz.prog 120 #[.string n, .string d] W (TwoR fl rs 0 W))
    (H2 : ∀ W, VarT W → Calls Tryz.prog 104 #[.string d, .string rs] W (StE lf 0 W))
    (H3 : ∀ W, VarT W → Calls Tryz.prog 60 #[.string rs, .string lf] W (CmpR mid W))
    (H4 : ∀ W, Calls Tryz.prog 121 #[.string n] W (BooR g W))
    (H5 : ∀ W, Calls Tryz.prog 122 #[.string fl] W (BooR o W))
    (H6 : ∀ W, Calls Tryz.prog 116 #[.agg #[.bool g, .bool o, .int .i64 mid]] W (BoA false W)) :
    Calls Tryz.prog 66 #[.agg #[.string n, .string d], .func (.func 116) #[] #[]] w (StE fl 0 w) := by
  have J1 := Lib.hid H1
  have J2 := Lib.hid H2
  have J3 := Lib.hid H3
  have J4 := Lib.hid H4
  have J5 := Lib.hid H5
  have J6 := Lib.hid H6
  have HB := Lib.hid ((Below.refl _ w).alloc (Nat.le_refl _) (.cells #[.string n, .string d] 87))
  have HV := Lib.hid hv
  have HX := row2 (heap_alloc_new w (.cells #[.string n, .string d] 87))
  have HX := Lib.hid HX
  clear H1 H2 H3 H4 H5 H6 hv
  go_enter Tryz.func66, Tryz.ntmps66
  go_wp2_with (first
    | (go_at_call 120; refine (J1.out _ (HV.out.below HB.out)).mono ?_; rintro e w1 ⟨rfl, b⟩; have B1 := Lib.hid (bt HB.out b); obtain ⟨x1, x2, _, _⟩ := HX.out; have k1 := (b.cell (p := ⟨w.heap.size, 0, none⟩) (World.block_lt_of_cell? _ _ x1)).trans x1; have k2 := (b.cell (p := ⟨w.heap.size, 1, none⟩) (World.block_lt_of_cell? _ _ x2)).trans x2; clear b x1 x2)
    | (go_at_call 104; refine (J2.out _ (HV.out.below B1.out)).mono ?_; rintro e w2 ⟨rfl, b⟩; have B2 := Lib.hid (bt B1.out b); have k3 := (b.cell (p := ⟨w.heap.size, 0, none⟩) (World.block_lt_of_cell? _ _ k1)).trans k1; clear b k1 k2)
    | (go_at_call 60; refine (J3.out _ (HV.out.below B2.out)).mono ?_; rintro e w3 ⟨rfl, b⟩; have B3 := Lib.hid (bt B2.out b); have k4 := (b.cell (p := ⟨w.heap.size, 0, none⟩) (World.block_lt_of_cell? _ _ k3)).trans k3; clear b k3)
    | (go_at_call 121; refine (J4.out _).mono ?_; rintro e w4 ⟨rfl, rfl⟩)
    | (go_at_call 122; refine (J5.out _).mono ?_; rintro e w5 ⟨rfl, rfl⟩)
    | (go_at_call 116; refine (J6.out _).mono ?_; rintro e w6 ⟨rfl, b⟩; have B6 := Lib.hid (bt B3.out b); clear b k4))
  go_ret2
  exact ⟨rfl, B6.out⟩
set_option maxRecDepth 100000 in
set_option maxHeartbeats 1600000 in
theorem round_up_2 (n d fl rs lf up : ByteArray) (g o : Bool) (mid : Int) (hz : (rs.toList == [48]) = false) (w : World) (hv : VarT w)
    (H1 : ∀ W, VarT W → Calls Tryz.prog 120 #[.string n, .string d] W (TwoR fl rs 0 W))
    (H2 : ∀ W, VarT W → Calls Tryz.prog 104 #[.string d, .string rs] W (StE lf 0 W))
    (H3 : ∀ W, VarT W → Calls Tryz.prog 60 #[.string rs, .string lf] W (CmpR mid W))
    (H4 : ∀ W, Calls Tryz.prog 121 #[.string n] W (BooR g W))
    (H5 : ∀ W, Calls Tryz.prog 122 #[.string fl] W (BooR o W))
    (H6 : ∀ W, Calls Tryz.prog 117 #[.agg #[.bool g, .bool o, .int .i64 mid]] W (BoA true W))
    (H7 : ∀ W, VarT W → Calls Tryz.prog 123 #[.string fl, .string ⟨#[49]⟩] W (StE up 0 W)) :
    Calls Tryz.prog 66 #[.agg #[.string n, .string d], .func (.func 117) #[] #[]] w (StE up 0 w) := by
  have J1 := Lib.hid H1
  have J2 := Lib.hid H2
  have J3 := Lib.hid H3
  have J4 := Lib.hid H4
  have J5 := Lib.hid H5
  have J6 := Lib.hid H6
  have J7 := Lib.hid H7
  have HB := Lib.hid ((Below.refl _ w).alloc (Nat.le_refl _) (.cells #[.string n, .string d] 87))
  have HV := Lib.hid hv
  have HX := row2 (heap_alloc_new w (.cells #[.string n, .string d] 87))
  have HX := Lib.hid HX
  clear H1 H2 H3 H4 H5 H6 H7 hv
  go_enter Tryz.func66, Tryz.ntmps66
  go_wp2_with (first
    | (go_at_call 120; refine (J1.out _ (HV.out.below HB.out)).mono ?_; rintro e w1 ⟨rfl, b⟩; have B1 := Lib.hid (bt HB.out b); obtain ⟨x1, x2, _, _⟩ := HX.out; have k1 := (b.cell (p := ⟨w.heap.size, 0, none⟩) (World.block_lt_of_cell? _ _ x1)).trans x1; have k2 := (b.cell (p := ⟨w.heap.size, 1, none⟩) (World.block_lt_of_cell? _ _ x2)).trans x2; clear b x1 x2)
    | (go_at_call 104; refine (J2.out _ (HV.out.below B1.out)).mono ?_; rintro e w2 ⟨rfl, b⟩; have B2 := Lib.hid (bt B1.out b); have k3 := (b.cell (p := ⟨w.heap.size, 0, none⟩) (World.block_lt_of_cell? _ _ k1)).trans k1; clear b k1 k2)
    | (go_at_call 60; refine (J3.out _ (HV.out.below B2.out)).mono ?_; rintro e w3 ⟨rfl, b⟩; have B3 := Lib.hid (bt B2.out b); have k4 := (b.cell (p := ⟨w.heap.size, 0, none⟩) (World.block_lt_of_cell? _ _ k3)).trans k3; clear b k3)
    | (go_at_call 121; refine (J4.out _).mono ?_; rintro e w4 ⟨rfl, rfl⟩)
    | (go_at_call 122; refine (J5.out _).mono ?_; rintro e w5 ⟨rfl, rfl⟩)
    | (go_at_call 117; refine (J6.out _).mono ?_; rintro e w6 ⟨rfl, b⟩; have B6 := Lib.hid (bt B3.out b); clear b k4)
    | (go_at_call 123; refine (J7.out _ (HV.out.below B6.out)).mono ?_; rintro e w7 ⟨rfl, b⟩; have B7 := Lib.hid (bt B6.out b); clear b))
  go_ret2
  exact ⟨rfl, B7.out⟩
set_option maxRecDepth 100000 in
set_option maxHeartbeats 1600000 in
theorem round_stay_2 (n d fl rs lf : ByteArray) (g o : Bool) (mid : Int) (hz : (rs.toList == [48]) = false) (w : World) (hv : VarT w)
    (H1 : ∀ W, VarT W → Calls Tryz.prog 120 #[.string n, .string d] W (TwoR fl rs 0 W))
    (H2 : ∀ W, VarT W → Calls Tryz.prog 104 #[.string d, .string rs] W (StE lf 0 W))
    (H3 : ∀ W, VarT W → Calls Tryz.prog 60 #[.string rs, .string lf] W (CmpR mid W))
    (H4 : ∀ W, Calls Tryz.prog 121 #[.string n] W (BooR g W))
    (H5 : ∀ W, Calls Tryz.prog 122 #[.string fl] W (BooR o W))
    (H6 : ∀ W, Calls Tryz.prog 117 #[.agg #[.bool g, .bool o, .int .i64 mid]] W (BoA false W)) :
    Calls Tryz.prog 66 #[.agg #[.string n, .string d], .func (.func 117) #[] #[]] w (StE fl 0 w) := by
  have J1 := Lib.hid H1
  have J2 := Lib.hid H2
  have J3 := Lib.hid H3
  have J4 := Lib.hid H4
  have J5 := Lib.hid H5
  have J6 := Lib.hid H6
  have HB := Lib.hid ((Below.refl _ w).alloc (Nat.le_refl _) (.cells #[.string n, .string d] 87))
  have HV := Lib.hid hv
  have HX := row2 (heap_alloc_new w (.cells #[.string n, .string d] 87))
  have HX := Lib.hid HX
  clear H1 H2 H3 H4 H5 H6 hv
  go_enter Tryz.func66, Tryz.ntmps66
  go_wp2_with (first
    | (go_at_call 120; refine (J1.out _ (HV.out.below HB.out)).mono ?_; rintro e w1 ⟨rfl, b⟩; have B1 := Lib.hid (bt HB.out b); obtain ⟨x1, x2, _, _⟩ := HX.out; have k1 := (b.cell (p := ⟨w.heap.size, 0, none⟩) (World.block_lt_of_cell? _ _ x1)).trans x1; have k2 := (b.cell (p := ⟨w.heap.size, 1, none⟩) (World.block_lt_of_cell? _ _ x2)).trans x2; clear b x1 x2)
    | (go_at_call 104; refine (J2.out _ (HV.out.below B1.out)).mono ?_; rintro e w2 ⟨rfl, b⟩; have B2 := Lib.hid (bt B1.out b); have k3 := (b.cell (p := ⟨w.heap.size, 0, none⟩) (World.block_lt_of_cell? _ _ k1)).trans k1; clear b k1 k2)
    | (go_at_call 60; refine (J3.out _ (HV.out.below B2.out)).mono ?_; rintro e w3 ⟨rfl, b⟩; have B3 := Lib.hid (bt B2.out b); have k4 := (b.cell (p := ⟨w.heap.size, 0, none⟩) (World.block_lt_of_cell? _ _ k3)).trans k3; clear b k3)
    | (go_at_call 121; refine (J4.out _).mono ?_; rintro e w4 ⟨rfl, rfl⟩)
    | (go_at_call 122; refine (J5.out _).mono ?_; rintro e w5 ⟨rfl, rfl⟩)
    | (go_at_call 117; refine (J6.out _).mono ?_; rintro e w6 ⟨rfl, b⟩; have B6 := Lib.hid (bt B3.out b); clear b k4))
  go_ret2
  exact ⟨rfl, B6.out⟩
set_option maxRecDepth 100000 in
set_option maxHeartbeats 1600000 in
theorem round_up_3 (n d fl rs lf up : ByteArray) (g o : Bool) (mid : Int) (hz : (rs.toList == [48]) = false) (w : World) (hv : VarT w)
    (H1 : ∀ W, VarT W → Calls Tryz.prog 120 #[.string n, .string d] W (TwoR fl rs 0 W))
    (H2 : ∀ W, VarT W → Calls Tryz.prog 104 #[.string d, .string rs] W (StE lf 0 W))
    (H3 : ∀ W, VarT W → Calls Tryz.prog 60 #[.string rs, .string lf] W (CmpR mid W))
    (H4 : ∀ W, Calls Tryz.prog 121 #[.string n] W (BooR g W))
    (H5 : ∀ W, Calls Tryz.prog 122 #[.string fl] W (BooR o W))
    (H6 : ∀ W, Calls Tryz.prog 118 #[.agg #[.bool g, .bool o, .int .i64 mid]] W (BoA true W))
    (H7 : ∀ W, VarT W → Calls Tryz.prog 123 #[.string fl, .string ⟨#[49]⟩] W (StE up 0 W)) :
    Calls Tryz.prog 66 #[.agg #[.string n, .string d], .func (.func 118) #[] #[]] w (StE up 0 w) := by
  have J1 := Lib.hid H1
  have J2 := Lib.hid H2
  have J3 := Lib.hid H3
  have J4 := Lib.hid H4
  have J5 := Lib.hid H5
  have J6 := Lib.hid H6
  have J7 := Lib.hid H7
  have HB := Lib.hid ((Below.refl _ w).alloc (Nat.le_refl _) (.cells #[.string n, .string d] 87))
  have HV := Lib.hid hv
  have HX := row2 (heap_alloc_new w (.cells #[.string n, .string d] 87))
  have HX := Lib.hid HX
  clear H1 H2 H3 H4 H5 H6 H7 hv
  go_enter Tryz.func66, Tryz.ntmps66
  go_wp2_with (first
    | (go_at_call 120; refine (J1.out _ (HV.out.below HB.out)).mono ?_; rintro e w1 ⟨rfl, b⟩; have B1 := Lib.hid (bt HB.out b); obtain ⟨x1, x2, _, _⟩ := HX.out; have k1 := (b.cell (p := ⟨w.heap.size, 0, none⟩) (World.block_lt_of_cell? _ _ x1)).trans x1; have k2 := (b.cell (p := ⟨w.heap.size, 1, none⟩) (World.block_lt_of_cell? _ _ x2)).trans x2; clear b x1 x2)
    | (go_at_call 104; refine (J2.out _ (HV.out.below B1.out)).mono ?_; rintro e w2 ⟨rfl, b⟩; have B2 := Lib.hid (bt B1.out b); have k3 := (b.cell (p := ⟨w.heap.size, 0, none⟩) (World.block_lt_of_cell? _ _ k1)).trans k1; clear b k1 k2)
    | (go_at_call 60; refine (J3.out _ (HV.out.below B2.out)).mono ?_; rintro e w3 ⟨rfl, b⟩; have B3 := Lib.hid (bt B2.out b); have k4 := (b.cell (p := ⟨w.heap.size, 0, none⟩) (World.block_lt_of_cell? _ _ k3)).trans k3; clear b k3)
    | (go_at_call 121; refine (J4.out _).mono ?_; rintro e w4 ⟨rfl, rfl⟩)
    | (go_at_call 122; refine (J5.out _).mono ?_; rintro e w5 ⟨rfl, rfl⟩)
    | (go_at_call 118; refine (J6.out _).mono ?_; rintro e w6 ⟨rfl, b⟩; have B6 := Lib.hid (bt B3.out b); clear b k4)
    | (go_at_call 123; refine (J7.out _ (HV.out.below B6.out)).mono ?_; rintro e w7 ⟨rfl, b⟩; have B7 := Lib.hid (bt B6.out b); clear b))
  go_ret2
  exact ⟨rfl, B7.out⟩
set_option maxRecDepth 100000 in
set_option maxHeartbeats 1600000 in
theorem round_stay_3 (n d fl rs lf : ByteArray) (g o : Bool) (mid : Int) (hz : (rs.toList == [48]) = false) (w : World) (hv : VarT w)
    (H1 : ∀ W, VarT W → Calls Tryz.prog 120 #[.string n, .string d] W (TwoR fl rs 0 W))
    (H2 : ∀ W, VarT W → Calls Tryz.prog 104 #[.string d, .string rs] W (StE lf 0 W))
    (H3 : ∀ W, VarT W → Calls Tryz.prog 60 #[.string rs, .string lf] W (CmpR mid W))
    (H4 : ∀ W, Calls Tryz.prog 121 #[.string n] W (BooR g W))
    (H5 : ∀ W, Calls Tryz.prog 122 #[.string fl] W (BooR o W))
    (H6 : ∀ W, Calls Tryz.prog 118 #[.agg #[.bool g, .bool o, .int .i64 mid]] W (BoA false W)) :
    Calls Tryz.prog 66 #[.agg #[.string n, .string d], .func (.func 118) #[] #[]] w (StE fl 0 w) := by
  have J1 := Lib.hid H1
  have J2 := Lib.hid H2
  have J3 := Lib.hid H3
  have J4 := Lib.hid H4
  have J5 := Lib.hid H5
  have J6 := Lib.hid H6
  have HB := Lib.hid ((Below.refl _ w).alloc (Nat.le_refl _) (.cells #[.string n, .string d] 87))
  have HV := Lib.hid hv
  have HX := row2 (heap_alloc_new w (.cells #[.string n, .string d] 87))
  have HX := Lib.hid HX
  clear H1 H2 H3 H4 H5 H6 hv
  go_enter Tryz.func66, Tryz.ntmps66
  go_wp2_with (first
    | (go_at_call 120; refine (J1.out _ (HV.out.below HB.out)).mono ?_; rintro e w1 ⟨rfl, b⟩; have B1 := Lib.hid (bt HB.out b); obtain ⟨x1, x2, _, _⟩ := HX.out; have k1 := (b.cell (p := ⟨w.heap.size, 0, none⟩) (World.block_lt_of_cell? _ _ x1)).trans x1; have k2 := (b.cell (p := ⟨w.heap.size, 1, none⟩) (World.block_lt_of_cell? _ _ x2)).trans x2; clear b x1 x2)
    | (go_at_call 104; refine (J2.out _ (HV.out.below B1.out)).mono ?_; rintro e w2 ⟨rfl, b⟩; have B2 := Lib.hid (bt B1.out b); have k3 := (b.cell (p := ⟨w.heap.size, 0, none⟩) (World.block_lt_of_cell? _ _ k1)).trans k1; clear b k1 k2)
    | (go_at_call 60; refine (J3.out _ (HV.out.below B2.out)).mono ?_; rintro e w3 ⟨rfl, b⟩; have B3 := Lib.hid (bt B2.out b); have k4 := (b.cell (p := ⟨w.heap.size, 0, none⟩) (World.block_lt_of_cell? _ _ k3)).trans k3; clear b k3)
    | (go_at_call 121; refine (J4.out _).mono ?_; rintro e w4 ⟨rfl, rfl⟩)
    | (go_at_call 122; refine (J5.out _).mono ?_; rintro e w5 ⟨rfl, rfl⟩)
    | (go_at_call 118; refine (J6.out _).mono ?_; rintro e w6 ⟨rfl, b⟩; have B6 := Lib.hid (bt B3.out b); clear b k4))
  go_ret2
  exact ⟨rfl, B6.out⟩
set_option maxRecDepth 100000 in
set_option maxHeartbeats 1600000 in
theorem round_stay_4 (n d fl rs lf : ByteArray) (g o : Bool) (mid : Int) (hz : (rs.toList == [48]) = false) (w : World) (hv : VarT w)
    (H1 : ∀ W, VarT W → Calls Tryz.prog 120 #[.string n, .string d] W (TwoR fl rs 0 W))
    (H2 : ∀ W, VarT W → Calls Tryz.prog 104 #[.string d, .string rs] W (StE lf 0 W))
    (H3 : ∀ W, VarT W → Calls Tryz.prog 60 #[.string rs, .string lf] W (CmpR mid W))
    (H4 : ∀ W, Calls Tryz.prog 121 #[.string n] W (BooR g W))
    (H5 : ∀ W, Calls Tryz.prog 122 #[.string fl] W (BooR o W))
    (H6 : ∀ W, Calls Tryz.prog 119 #[.agg #[.bool g, .bool o, .int .i64 mid]] W (BoA false W)) :
    Calls Tryz.prog 66 #[.agg #[.string n, .string d], .func (.func 119) #[] #[]] w (StE fl 0 w) := by
  have J1 := Lib.hid H1
  have J2 := Lib.hid H2
  have J3 := Lib.hid H3
  have J4 := Lib.hid H4
  have J5 := Lib.hid H5
  have J6 := Lib.hid H6
  have HB := Lib.hid ((Below.refl _ w).alloc (Nat.le_refl _) (.cells #[.string n, .string d] 87))
  have HV := Lib.hid hv
  have HX := row2 (heap_alloc_new w (.cells #[.string n, .string d] 87))
  have HX := Lib.hid HX
  clear H1 H2 H3 H4 H5 H6 hv
  go_enter Tryz.func66, Tryz.ntmps66
  go_wp2_with (first
    | (go_at_call 120; refine (J1.out _ (HV.out.below HB.out)).mono ?_; rintro e w1 ⟨rfl, b⟩; have B1 := Lib.hid (bt HB.out b); obtain ⟨x1, x2, _, _⟩ := HX.out; have k1 := (b.cell (p := ⟨w.heap.size, 0, none⟩) (World.block_lt_of_cell? _ _ x1)).trans x1; have k2 := (b.cell (p := ⟨w.heap.size, 1, none⟩) (World.block_lt_of_cell? _ _ x2)).trans x2; clear b x1 x2)
    | (go_at_call 104; refine (J2.out _ (HV.out.below B1.out)).mono ?_; rintro e w2 ⟨rfl, b⟩; have B2 := Lib.hid (bt B1.out b); have k3 := (b.cell (p := ⟨w.heap.size, 0, none⟩) (World.block_lt_of_cell? _ _ k1)).trans k1; clear b k1 k2)
    | (go_at_call 60; refine (J3.out _ (HV.out.below B2.out)).mono ?_; rintro e w3 ⟨rfl, b⟩; have B3 := Lib.hid (bt B2.out b); have k4 := (b.cell (p := ⟨w.heap.size, 0, none⟩) (World.block_lt_of_cell? _ _ k3)).trans k3; clear b k3)
    | (go_at_call 121; refine (J4.out _).mono ?_; rintro e w4 ⟨rfl, rfl⟩)
    | (go_at_call 122; refine (J5.out _).mono ?_; rintro e w5 ⟨rfl, rfl⟩)
    | (go_at_call 119; refine (J6.out _).mono ?_; rintro e w6 ⟨rfl, b⟩; have B6 := Lib.hid (bt B3.out b); clear b k4))
  go_ret2
  exact ⟨rfl, B6.out⟩
set_option maxRecDepth 100000 in
set_option maxHeartbeats 1600000 in
theorem Round_mode (s : ByteArray) (m : Int) (h5 : 5 ≤ m) (h255 : m ≤ 255) (w : World) :
    Calls Tryz.prog 34 #[.string s, .int .u8 m] w (StE ⟨#[]⟩ 2 w) := by
  have HR := Lib.hid roundings_any
  go_enter Tryz.func34, Tryz.ntmps34
  go_wp2_with (go_at_call 65; refine (HR.out _).mono ?_; rintro e w1 ⟨rfl, b⟩; have B1 := Lib.hid (fun o => b.alloc b.size o); clear b)
  go_ret2
  exact ⟨rfl, B1.out _⟩
set_option maxRecDepth 100000 in
set_option maxHeartbeats 1600000 in
theorem Round_parse (s a d : ByteArray) (m c : Int) (h0 : 0 ≤ m) (h5 : m ≤ 4) (hc : ¬ c = 0) (w : World) (hv : VarR w)
    (H : ∀ W, VarR W → Calls Tryz.prog 63 #[.string s] W (PrsR a d c W)) :
    Calls Tryz.prog 34 #[.string s, .int .u8 m] w (StE ⟨#[]⟩ c w) := by
  have HR := Lib.hid roundings_any
  have J := Lib.hid H
  have HV := Lib.hid hv
  have hz : (c == 0) = false := by rw [beq_eq_false_iff_ne]; exact hc
  clear hc H hv
  go_enter Tryz.func34, Tryz.ntmps34
  go_wp2_with (first
    | (go_at_call 65; refine (HR.out _).mono ?_; rintro e w1 ⟨rfl, b⟩; have B1 := Lib.hid (fun o => b.alloc b.size o); clear b)
    | (go_at_call 63; refine (J.out _ (HV.out.below (B1.out _))).mono ?_; rintro e w2 ⟨rfl, b⟩; have B2 := Lib.hid (bt (B1.out (.cells #[.func (.func 115) #[] #[], .func (.func 116) #[] #[], .func (.func 117) #[] #[], .func (.func 118) #[] #[], .func (.func 119) #[] #[]] 98)) b); clear b))
  go_ret2
  exact ⟨rfl, B2.out.alloc B2.out.size _⟩
set_option maxRecDepth 100000 in
set_option maxHeartbeats 1600000 in
theorem Round_0 (s a d R : ByteArray) (w : World) (hv : VarR w)
    (H : ∀ W, VarR W → Calls Tryz.prog 63 #[.string s] W (PrsR a d 0 W))
    (H2 : ∀ W, VarT W → Calls Tryz.prog 66 #[.agg #[.string a, .string d], .func (.func 115) #[] #[]] W (StE R 0 W)) :
    Calls Tryz.prog 34 #[.string s, .int .u8 0] w (StE R 0 w) := by
  have HR := Lib.hid roundings_any
  have J := Lib.hid H
  have J2 := Lib.hid H2
  have HV := Lib.hid hv
  clear H H2 hv
  go_enter Tryz.func34, Tryz.ntmps34
  go_wp2_with (first
    | (go_at_call 65; refine (HR.out _).mono ?_; rintro e w1 ⟨rfl, b⟩; have B1 := Lib.hid (b.alloc b.size (.cells #[.func (.func 115) #[] #[], .func (.func 116) #[] #[], .func (.func 117) #[] #[], .func (.func 118) #[] #[], .func (.func 119) #[] #[]] 98)); have G1 := Lib.hid (heap_alloc_new w1 (.cells #[.func (.func 115) #[] #[], .func (.func 116) #[] #[], .func (.func 117) #[] #[], .func (.func 118) #[] #[], .func (.func 119) #[] #[]] 98)); clear b)
    | (go_at_call 63; refine (J.out _ (HV.out.below B1.out)).mono ?_; rintro e w2 ⟨rfl, b⟩; have B2 := Lib.hid (bt B1.out b); have G2 := Lib.hid ((b.block _ (lt_of_block G1.out)).trans G1.out); clear b))
  have B3 := B2.out.alloc B2.out.size (.cells #[.string a, .string d] 87)
  obtain ⟨k1, k2, _, _⟩ := row2 (heap_alloc_new w2 (.cells #[.string a, .string d] 87))
  have k3 : (w2.alloc (.cells #[.string a, .string d] 87)).cell? ⟨w1.heap.size, 0, none⟩ = some (.func (.func 115) #[] #[]) := by
    rw [cell_of_row _ _ _ _ _ _ ((heap_alloc_old w2 _ (lt_of_block G2.out)).trans G2.out)]; rfl
  generalize w2.alloc (.cells #[.string a, .string d] 87) = w3 at *
  go_region_held3 (fun w' => w'.cell? ⟨w2.heap.size, 0, none⟩ = some (.string a) ∧ w'.cell? ⟨w2.heap.size, 1, none⟩ = some (.string d) ∧ w'.cell? ⟨w1.heap.size, 0, none⟩ = some (.func (.func 115) #[] #[]))
    (((try go_split_ands); (and_intros) <;> first | assumption | (refine (b4.cell ?_).trans ?_; exact (World.block_lt_of_cell? _ _ (by assumption)); assumption) | (go_keep; done)))
    (first
      | (go_split_ands; go_at_call 66; refine (J2.out _ (HV.out.below (Below.drew B3)).t).mono ?_; rintro e w4 ⟨rfl, b4⟩; have B4 := bt (Below.drew B3) b4))
  go_wp2
  go_ret2
  exact ⟨rfl, B4⟩
set_option maxRecDepth 100000 in
set_option maxHeartbeats 1600000 in
theorem Round_1 (s a d R : ByteArray) (w : World) (hv : VarR w)
    (H : ∀ W, VarR W → Calls Tryz.prog 63 #[.string s] W (PrsR a d 0 W))
    (H2 : ∀ W, VarT W → Calls Tryz.prog 66 #[.agg #[.string a, .string d], .func (.func 116) #[] #[]] W (StE R 0 W)) :
    Calls Tryz.prog 34 #[.string s, .int .u8 1] w (StE R 0 w) := by
  have HR := Lib.hid roundings_any
  have J := Lib.hid H
  have J2 := Lib.hid H2
  have HV := Lib.hid hv
  clear H H2 hv
  go_enter Tryz.func34, Tryz.ntmps34
  go_wp2_with (first
    | (go_at_call 65; refine (HR.out _).mono ?_; rintro e w1 ⟨rfl, b⟩; have B1 := Lib.hid (b.alloc b.size (.cells #[.func (.func 115) #[] #[], .func (.func 116) #[] #[], .func (.func 117) #[] #[], .func (.func 118) #[] #[], .func (.func 119) #[] #[]] 98)); have G1 := Lib.hid (heap_alloc_new w1 (.cells #[.func (.func 115) #[] #[], .func (.func 116) #[] #[], .func (.func 117) #[] #[], .func (.func 118) #[] #[], .func (.func 119) #[] #[]] 98)); clear b)
    | (go_at_call 63; refine (J.out _ (HV.out.below B1.out)).mono ?_; rintro e w2 ⟨rfl, b⟩; have B2 := Lib.hid (bt B1.out b); have G2 := Lib.hid ((b.block _ (lt_of_block G1.out)).trans G1.out); clear b))
  have B3 := B2.out.alloc B2.out.size (.cells #[.string a, .string d] 87)
  obtain ⟨k1, k2, _, _⟩ := row2 (heap_alloc_new w2 (.cells #[.string a, .string d] 87))
  have k3 : (w2.alloc (.cells #[.string a, .string d] 87)).cell? ⟨w1.heap.size, 1, none⟩ = some (.func (.func 116) #[] #[]) := by
    rw [cell_of_row _ _ _ _ _ _ ((heap_alloc_old w2 _ (lt_of_block G2.out)).trans G2.out)]; rfl
  generalize w2.alloc (.cells #[.string a, .string d] 87) = w3 at *
  go_region_held3 (fun w' => w'.cell? ⟨w2.heap.size, 0, none⟩ = some (.string a) ∧ w'.cell? ⟨w2.heap.size, 1, none⟩ = some (.string d) ∧ w'.cell? ⟨w1.heap.size, 1, none⟩ = some (.func (.func 116) #[] #[]))
    (((try go_split_ands); (and_intros) <;> first | assumption | (refine (b4.cell ?_).trans ?_; exact (World.block_lt_of_cell? _ _ (by assumption)); assumption) | (go_keep; done)))
    (first
      | (go_split_ands; go_at_call 66; refine (J2.out _ (HV.out.below (Below.drew B3)).t).mono ?_; rintro e w4 ⟨rfl, b4⟩; have B4 := bt (Below.drew B3) b4))
  go_wp2
  go_ret2
  exact ⟨rfl, B4⟩
set_option maxRecDepth 100000 in
set_option maxHeartbeats 1600000 in
theorem Round_2 (s a d R : ByteArray) (w : World) (hv : VarR w)
    (H : ∀ W, VarR W → Calls Tryz.prog 63 #[.string s] W (PrsR a d 0 W))
    (H2 : ∀ W, VarT W → Calls Tryz.prog 66 #[.agg #[.string a, .string d], .func (.func 117) #[] #[]] W (StE R 0 W)) :
    Calls Tryz.prog 34 #[.string s, .int .u8 2] w (StE R 0 w) := by
  have HR := Lib.hid roundings_any
  have J := Lib.hid H
  have J2 := Lib.hid H2
  have HV := Lib.hid hv
  clear H H2 hv
  go_enter Tryz.func34, Tryz.ntmps34
  go_wp2_with (first
    | (go_at_call 65; refine (HR.out _).mono ?_; rintro e w1 ⟨rfl, b⟩; have B1 := Lib.hid (b.alloc b.size (.cells #[.func (.func 115) #[] #[], .func (.func 116) #[] #[], .func (.func 117) #[] #[], .func (.func 118) #[] #[], .func (.func 119) #[] #[]] 98)); have G1 := Lib.hid (heap_alloc_new w1 (.cells #[.func (.func 115) #[] #[], .func (.func 116) #[] #[], .func (.func 117) #[] #[], .func (.func 118) #[] #[], .func (.func 119) #[] #[]] 98)); clear b)
    | (go_at_call 63; refine (J.out _ (HV.out.below B1.out)).mono ?_; rintro e w2 ⟨rfl, b⟩; have B2 := Lib.hid (bt B1.out b); have G2 := Lib.hid ((b.block _ (lt_of_block G1.out)).trans G1.out); clear b))
  have B3 := B2.out.alloc B2.out.size (.cells #[.string a, .string d] 87)
  obtain ⟨k1, k2, _, _⟩ := row2 (heap_alloc_new w2 (.cells #[.string a, .string d] 87))
  have k3 : (w2.alloc (.cells #[.string a, .string d] 87)).cell? ⟨w1.heap.size, 2, none⟩ = some (.func (.func 117) #[] #[]) := by
    rw [cell_of_row _ _ _ _ _ _ ((heap_alloc_old w2 _ (lt_of_block G2.out)).trans G2.out)]; rfl
  generalize w2.alloc (.cells #[.string a, .string d] 87) = w3 at *
  go_region_held3 (fun w' => w'.cell? ⟨w2.heap.size, 0, none⟩ = some (.string a) ∧ w'.cell? ⟨w2.heap.size, 1, none⟩ = some (.string d) ∧ w'.cell? ⟨w1.heap.size, 2, none⟩ = some (.func (.func 117) #[] #[]))
    (((try go_split_ands); (and_intros) <;> first | assumption | (refine (b4.cell ?_).trans ?_; exact (World.block_lt_of_cell? _ _ (by assumption)); assumption) | (go_keep; done)))
    (first
      | (go_split_ands; go_at_call 66; refine (J2.out _ (HV.out.below (Below.drew B3)).t).mono ?_; rintro e w4 ⟨rfl, b4⟩; have B4 := bt (Below.drew B3) b4))
  go_wp2
  go_ret2
  exact ⟨rfl, B4⟩
set_option maxRecDepth 100000 in
set_option maxHeartbeats 1600000 in
theorem Round_3 (s a d R : ByteArray) (w : World) (hv : VarR w)
    (H : ∀ W, VarR W → Calls Tryz.prog 63 #[.string s] W (PrsR a d 0 W))
    (H2 : ∀ W, VarT W → Calls Tryz.prog 66 #[.agg #[.string a, .string d], .func (.func 118) #[] #[]] W (StE R 0 W)) :
    Calls Tryz.prog 34 #[.string s, .int .u8 3] w (StE R 0 w) := by
  have HR := Lib.hid roundings_any
  have J := Lib.hid H
  have J2 := Lib.hid H2
  have HV := Lib.hid hv
  clear H H2 hv
  go_enter Tryz.func34, Tryz.ntmps34
  go_wp2_with (first
    | (go_at_call 65; refine (HR.out _).mono ?_; rintro e w1 ⟨rfl, b⟩; have B1 := Lib.hid (b.alloc b.size (.cells #[.func (.func 115) #[] #[], .func (.func 116) #[] #[], .func (.func 117) #[] #[], .func (.func 118) #[] #[], .func (.func 119) #[] #[]] 98)); have G1 := Lib.hid (heap_alloc_new w1 (.cells #[.func (.func 115) #[] #[], .func (.func 116) #[] #[], .func (.func 117) #[] #[], .func (.func 118) #[] #[], .func (.func 119) #[] #[]] 98)); clear b)
    | (go_at_call 63; refine (J.out _ (HV.out.below B1.out)).mono ?_; rintro e w2 ⟨rfl, b⟩; have B2 := Lib.hid (bt B1.out b); have G2 := Lib.hid ((b.block _ (lt_of_block G1.out)).trans G1.out); clear b))
  have B3 := B2.out.alloc B2.out.size (.cells #[.string a, .string d] 87)
  obtain ⟨k1, k2, _, _⟩ := row2 (heap_alloc_new w2 (.cells #[.string a, .string d] 87))
  have k3 : (w2.alloc (.cells #[.string a, .string d] 87)).cell? ⟨w1.heap.size, 3, none⟩ = some (.func (.func 118) #[] #[]) := by
    rw [cell_of_row _ _ _ _ _ _ ((heap_alloc_old w2 _ (lt_of_block G2.out)).trans G2.out)]; rfl
  generalize w2.alloc (.cells #[.string a, .string d] 87) = w3 at *
  go_region_held3 (fun w' => w'.cell? ⟨w2.heap.size, 0, none⟩ = some (.string a) ∧ w'.cell? ⟨w2.heap.size, 1, none⟩ = some (.string d) ∧ w'.cell? ⟨w1.heap.size, 3, none⟩ = some (.func (.func 118) #[] #[]))
    (((try go_split_ands); (and_intros) <;> first | assumption | (refine (b4.cell ?_).trans ?_; exact (World.block_lt_of_cell? _ _ (by assumption)); assumption) | (go_keep; done)))
    (first
      | (go_split_ands; go_at_call 66; refine (J2.out _ (HV.out.below (Below.drew B3)).t).mono ?_; rintro e w4 ⟨rfl, b4⟩; have B4 := bt (Below.drew B3) b4))
  go_wp2
  go_ret2
  exact ⟨rfl, B4⟩
set_option maxRecDepth 100000 in
set_option maxHeartbeats 1600000 in
theorem Round_4 (s a d R : ByteArray) (w : World) (hv : VarR w)
    (H : ∀ W, VarR W → Calls Tryz.prog 63 #[.string s] W (PrsR a d 0 W))
    (H2 : ∀ W, VarT W → Calls Tryz.prog 66 #[.agg #[.string a, .string d], .func (.func 119) #[] #[]] W (StE R 0 W)) :
    Calls Tryz.prog 34 #[.string s, .int .u8 4] w (StE R 0 w) := by
  have HR := Lib.hid roundings_any
  have J := Lib.hid H
  have J2 := Lib.hid H2
  have HV := Lib.hid hv
  clear H H2 hv
  go_enter Tryz.func34, Tryz.ntmps34
  go_wp2_with (first
    | (go_at_call 65; refine (HR.out _).mono ?_; rintro e w1 ⟨rfl, b⟩; have B1 := Lib.hid (b.alloc b.size (.cells #[.func (.func 115) #[] #[], .func (.func 116) #[] #[], .func (.func 117) #[] #[], .func (.func 118) #[] #[], .func (.func 119) #[] #[]] 98)); have G1 := Lib.hid (heap_alloc_new w1 (.cells #[.func (.func 115) #[] #[], .func (.func 116) #[] #[], .func (.func 117) #[] #[], .func (.func 118) #[] #[], .func (.func 119) #[] #[]] 98)); clear b)
    | (go_at_call 63; refine (J.out _ (HV.out.below B1.out)).mono ?_; rintro e w2 ⟨rfl, b⟩; have B2 := Lib.hid (bt B1.out b); have G2 := Lib.hid ((b.block _ (lt_of_block G1.out)).trans G1.out); clear b))
  have B3 := B2.out.alloc B2.out.size (.cells #[.string a, .string d] 87)
  obtain ⟨k1, k2, _, _⟩ := row2 (heap_alloc_new w2 (.cells #[.string a, .string d] 87))
  have k3 : (w2.alloc (.cells #[.string a, .string d] 87)).cell? ⟨w1.heap.size, 4, none⟩ = some (.func (.func 119) #[] #[]) := by
    rw [cell_of_row _ _ _ _ _ _ ((heap_alloc_old w2 _ (lt_of_block G2.out)).trans G2.out)]; rfl
  generalize w2.alloc (.cells #[.string a, .string d] 87) = w3 at *
  go_region_held3 (fun w' => w'.cell? ⟨w2.heap.size, 0, none⟩ = some (.string a) ∧ w'.cell? ⟨w2.heap.size, 1, none⟩ = some (.string d) ∧ w'.cell? ⟨w1.heap.size, 4, none⟩ = some (.func (.func 119) #[] #[]))
    (((try go_split_ands); (and_intros) <;> first | assumption | (refine (b4.cell ?_).trans ?_; exact (World.block_lt_of_cell? _ _ (by assumption)); assumption) | (go_keep; done)))
    (first
      | (go_split_ands; go_at_call 66; refine (J2.out _ (HV.out.below (Below.drew B3)).t).mono ?_; rintro e w4 ⟨rfl, b4⟩; have B4 := bt (Below.drew B3) b4))
  go_wp2
  go_ret2
  exact ⟨rfl, B4⟩
end Go.Proofs.YtalnfbgaiegicaaGreatDoor
/- Layer 2: rounding: what it answers. -/
namespace Go.Proofs.YtalnfbgaiegicaaGreatDoor
open Go Go.RowKit

/-- The last byte of an integer's text tells whether it is odd. -/
theorem last_list (z : Int) : ∃ (p : List UInt8) (c : UInt8), Lib.itoa z = p ++ [c] ∧ 48 ≤ c.toNat ∧ c.toNat ≤ 57 ∧ (((c.toNat : Int) - 48) % 2 == 1) = decide (z % 2 = 1) := by
  have h12 : ¬ chk (Lib.itoa z) = 12 := by rw [chk_itoa]; split <;> decide
  have hn := num_itoa z
  rcases can_cases _ h12 with h | ⟨h1, h2⟩
  · rw [h] at hn
    have hz : z = 0 := by rw [← hn]; decide +kernel
    exact ⟨[], 48, h, by decide, by decide, by rw [hz]; rfl⟩
  · have hb : bod (Lib.itoa z) ≠ [] := by intro e; rw [e] at h1; cases h1
    obtain ⟨p, c, hp⟩ : ∃ p c, bod (Lib.itoa z) = p ++ [c] := ⟨_, _, (List.dropLast_concat_getLast hb).symm⟩
    have hc : dgB c = true := by rw [hp] at h2; exact List.all_eq_true.1 h2 c (by simp)
    obtain ⟨c1, c2⟩ := (dgB_iff c).1 hc
    have hd : ∃ k : Nat, vl 10 (dgs (bod (Lib.itoa z))) = (c.toNat - 48) + 10 * k := by
      rw [hp]
      refine ⟨vl 10 (dgs p), ?_⟩
      unfold dgs
      rw [List.reverse_append, List.map_append]
      rfl
    obtain ⟨k, hk⟩ := hd
    have hpar : (((c.toNat : Int) - 48) % 2 == 1) = decide (z % 2 = 1) := by
      rw [Bool.eq_iff_iff, beq_iff_eq, decide_eq_true_iff]
      unfold num at hn
      split at hn <;> omega
    cases hg : ngB (Lib.itoa z)
    · rw [bod_pos _ hg] at hp
      exact ⟨p, c, hp, by omega, by omega, hpar⟩
    · have e := neg_cons _ hg
      rw [hp] at e
      exact ⟨45 :: p, c, by rw [e]; rfl, by omega, by omega, hpar⟩
theorem odd_q (z : Int) (hz : z.natAbs < lim) (w : World) : Calls Tryz.prog 122 #[.string (rep z)] w (BooR (decide (z % 2 = 1)) w) := by
  obtain ⟨p, c, h, h1, h2, h3⟩ := last_list z
  have hs : (rep z).size = p.length + 1 := by rw [Lib.size_eq, rep_data, h]; simp
  have hl := rep_short hz
  refine odd_any (rep z) c p.length hs (by omega) (fun hlt => ?_) _ h1 h2 h3 w
  have hg := getElem_toList (rep z) p.length hlt
  rw [rep_data, h] at hg
  simpa using hg.symm
/-- Is the rational rounded up to the integer above its floor? -/
def rndUp (m : Nat) (q : Rat) : Bool := upB m (decide (q.num < 0)) (decide ((q.num / q.den) % 2 = 1)) (cmpZ (q.num % q.den) (q.den - q.num % q.den))
/-- What Round answers. -/
def rndQ (m : Nat) (q : Rat) : Int := if q.num % q.den = 0 then q.num / q.den else if rndUp m q = true then q.num / q.den + 1 else q.num / q.den
theorem floor_up {n d : Int} (hd : 0 < d) (hr : n % d ≠ 0) : (n / d + 1).natAbs ≤ n.natAbs := by
  have h0 := Int.emod_nonneg n (show d ≠ 0 by omega)
  have h1 := Int.emod_lt_of_pos n hd
  have h2 := Int.mul_ediv_add_emod n d
  have hd2 : 2 ≤ d := by omega
  generalize n / d = f at *
  generalize n % d = r at *
  rcases Int.lt_or_le f 0 with h | h
  · have h3 := Int.mul_le_mul_of_nonpos_right (show 1 ≤ d by omega) (show f + 1 ≤ 0 by omega)
    rw [Int.mul_add] at h3
    omega
  · have : 2 * f ≤ d * f := Int.mul_le_mul_of_nonneg_right hd2 h
    omega
theorem rnd_lims {q : Rat} (h : Sml q) : (q.num / q.den).natAbs < lim ∧ (q.num % q.den).natAbs < lim ∧ ((q.den : Int) - q.num % q.den).natAbs < lim := by
  have hd := q.den_pos
  have h0 := Int.emod_nonneg q.num (den_ne q)
  have h1 := Int.emod_lt_of_pos q.num (show 0 < (q.den : Int) by omega)
  have h2 := h.2
  exact ⟨Nat.lt_of_le_of_lt (Int.natAbs_ediv_le_natAbs _ _) h.1, by omega, by omega⟩
theorem rndQ_abs (m : Nat) {q : Rat} (h : Sml q) : (rndQ m q).natAbs < lim := by
  obtain ⟨h1, _, _⟩ := rnd_lims h
  have hd := q.den_pos
  unfold rndQ
  split
  · exact h1
  · next hr =>
    split
    · exact Nat.lt_of_le_of_lt (floor_up (by omega) hr) h.1
    · exact h1
theorem cmp_three (x y : Int) : cmpZ x y = -1 ∨ cmpZ x y = 0 ∨ cmpZ x y = 1 := by
  rcases cmpZ_tri x y with ⟨_, h⟩ | ⟨_, h⟩ | ⟨_, h⟩
  · exact .inl h
  · exact .inr (.inl h)
  · exact .inr (.inr h)
theorem rep_is_zero (y : Int) : ((rep y).toList == [48]) = decide (y = 0) := by
  rw [Lib.toList_data, rep_data, Bool.eq_iff_iff, beq_iff_eq, decide_eq_true_iff, ← itoa_zero]
  exact ⟨fun h => itoa_inj h, fun h => by rw [h]⟩
theorem sub_rep {x y z : Int} (hx : x.natAbs < lim) (hy : y.natAbs < lim) (hz : x - y = z) (hl : z.natAbs < lim) (w : World) (hv : VarT w) : Calls Tryz.prog 104 #[.string (rep x), .string (rep y)] w (StE (rep z) 0 w) := by
  subst hz
  have h := sub_lims hx hy w hv
  rw [LB_true.2 hl, if_pos rfl, if_pos rfl] at h
  exact h
theorem add_rep {x y z : Int} (hx : x.natAbs < lim) (hy : y.natAbs < lim) (hz : x + y = z) (hl : z.natAbs < lim) (w : World) (hv : VarT w) : Calls Tryz.prog 123 #[.string (rep x), .string (rep y)] w (StE (rep z) 0 w) := by
  subst hz
  have h := add_lims hx hy w hv
  rw [LB_true.2 hl, if_pos rfl, if_pos rfl] at h
  exact h
/-- Round of a text, by any rule. -/
def roC (m : Int) (l : List UInt8) : Int := if 5 ≤ m then 2 else chkR l
def roT (m : Int) (l : List UInt8) : ByteArray := if roC m l = 0 then rep (rndQ m.toNat (qv l)) else ⟨#[]⟩
theorem Round_q0 (q : Rat) (h : Sml q) (w : World) (hv : VarR w) : Calls Tryz.prog 34 #[.string (rq q), .int .u8 0] w (StE (rep (rndQ 0 q)) 0 w) := by
  obtain ⟨l1, l2, l3⟩ := rnd_lims h
  refine Round_0 _ _ _ _ w hv (fun W hW => parse_q q h W hW) (fun W hW => ?_)
  have H1 := fun W hW => divmod_rep h.1 h.2 (den_ne q) rfl rfl _ _ _ _ rfl rfl rfl rfl W hW
  unfold rndQ
  by_cases h0 : q.num % q.den = 0
  · rw [if_pos h0]
    exact round_zero _ _ _ _ _ (by rw [rep_is_zero]; exact decide_eq_true h0) W hW H1
  · rw [if_neg h0]
    have hz : ((rep (q.num % q.den)).toList == [48]) = false := by rw [rep_is_zero]; exact decide_eq_false h0
    have H2 := fun W hW => sub_rep h.2 l2 rfl l3 W hW
    have H3 := fun W hW => compare_rep l2 l3 rfl _ _ rfl rfl W hW
    have H4 := fun W => negative_any' (rep q.num) _ (rep_ng q.num) W
    have H5 := fun W => odd_q _ l1 W
    have H6 := fun W => above_0 (decide (q.num < 0)) (decide ((q.num / q.den) % 2 = 1)) (cmpZ (q.num % q.den) (q.den - q.num % q.den)) W
    have e : upB 0 (decide (q.num < 0)) (decide ((q.num / q.den) % 2 = 1)) (cmpZ (q.num % q.den) (q.den - q.num % q.den)) = rndUp 0 q := rfl
    rw [e] at H6
    have hd := q.den_pos
    cases hu : rndUp 0 q
    · rw [hu] at H6
      rw [if_neg (by decide)]
      exact round_stay_0 _ _ _ _ _ _ _ _ hz W hW H1 H2 H3 H4 H5 H6
    · rw [hu] at H6
      rw [if_pos rfl]
      have l4 : (q.num / q.den + 1).natAbs < lim := Nat.lt_of_le_of_lt (floor_up (by omega) h0) h.1
      exact round_up_0 _ _ _ _ _ _ _ _ _ hz W hW H1 H2 H3 H4 H5 H6 (fun W hW => by have k := add_rep l1 (Dg.lim dg_one (by omega)) rfl l4 W hW; rw [rep_one] at k; exact k)
theorem Round_q1 (q : Rat) (h : Sml q) (w : World) (hv : VarR w) : Calls Tryz.prog 34 #[.string (rq q), .int .u8 1] w (StE (rep (rndQ 1 q)) 0 w) := by
  obtain ⟨l1, l2, l3⟩ := rnd_lims h
  refine Round_1 _ _ _ _ w hv (fun W hW => parse_q q h W hW) (fun W hW => ?_)
  have H1 := fun W hW => divmod_rep h.1 h.2 (den_ne q) rfl rfl _ _ _ _ rfl rfl rfl rfl W hW
  unfold rndQ
  by_cases h0 : q.num % q.den = 0
  · rw [if_pos h0]
    exact round_zero _ _ _ _ _ (by rw [rep_is_zero]; exact decide_eq_true h0) W hW H1
  · rw [if_neg h0]
    have hz : ((rep (q.num % q.den)).toList == [48]) = false := by rw [rep_is_zero]; exact decide_eq_false h0
    have H2 := fun W hW => sub_rep h.2 l2 rfl l3 W hW
    have H3 := fun W hW => compare_rep l2 l3 rfl _ _ rfl rfl W hW
    have H4 := fun W => negative_any' (rep q.num) _ (rep_ng q.num) W
    have H5 := fun W => odd_q _ l1 W
    have H6 := fun W => above_1 (decide (q.num < 0)) (decide ((q.num / q.den) % 2 = 1)) (cmpZ (q.num % q.den) (q.den - q.num % q.den)) W
    have e : upB 1 (decide (q.num < 0)) (decide ((q.num / q.den) % 2 = 1)) (cmpZ (q.num % q.den) (q.den - q.num % q.den)) = rndUp 1 q := rfl
    rw [e] at H6
    have hd := q.den_pos
    cases hu : rndUp 1 q
    · rw [hu] at H6
      rw [if_neg (by decide)]
      exact round_stay_1 _ _ _ _ _ _ _ _ hz W hW H1 H2 H3 H4 H5 H6
    · rw [hu] at H6
      rw [if_pos rfl]
      have l4 : (q.num / q.den + 1).natAbs < lim := Nat.lt_of_le_of_lt (floor_up (by omega) h0) h.1
      exact round_up_1 _ _ _ _ _ _ _ _ _ hz W hW H1 H2 H3 H4 H5 H6 (fun W hW => by have k := add_rep l1 (Dg.lim dg_one (by omega)) rfl l4 W hW; rw [rep_one] at k; exact k)
theorem Round_q2 (q : Rat) (h : Sml q) (w : World) (hv : VarR w) : Calls Tryz.prog 34 #[.string (rq q), .int .u8 2] w (StE (rep (rndQ 2 q)) 0 w) := by
  obtain ⟨l1, l2, l3⟩ := rnd_lims h
  refine Round_2 _ _ _ _ w hv (fun W hW => parse_q q h W hW) (fun W hW => ?_)
  have H1 := fun W hW => divmod_rep h.1 h.2 (den_ne q) rfl rfl _ _ _ _ rfl rfl rfl rfl W hW
  unfold rndQ
  by_cases h0 : q.num % q.den = 0
  · rw [if_pos h0]
    exact round_zero _ _ _ _ _ (by rw [rep_is_zero]; exact decide_eq_true h0) W hW H1
  · rw [if_neg h0]
    have hz : ((rep (q.num % q.den)).toList == [48]) = false := by rw [rep_is_zero]; exact decide_eq_false h0
    have H2 := fun W hW => sub_rep h.2 l2 rfl l3 W hW
    have H3 := fun W hW => compare_rep l2 l3 rfl _ _ rfl rfl W hW
    have H4 := fun W => negative_any' (rep q.num) _ (rep_ng q.num) W
    have H5 := fun W => odd_q _ l1 W
    have H6 := fun W => above_2 (decide (q.num < 0)) (decide ((q.num / q.den) % 2 = 1)) (cmpZ (q.num % q.den) (q.den - q.num % q.den)) (cmp_three _ _) W
    have e : upB 2 (decide (q.num < 0)) (decide ((q.num / q.den) % 2 = 1)) (cmpZ (q.num % q.den) (q.den - q.num % q.den)) = rndUp 2 q := rfl
    rw [e] at H6
    have hd := q.den_pos
    cases hu : rndUp 2 q
    · rw [hu] at H6
      rw [if_neg (by decide)]
      exact round_stay_2 _ _ _ _ _ _ _ _ hz W hW H1 H2 H3 H4 H5 H6
    · rw [hu] at H6
      rw [if_pos rfl]
      have l4 : (q.num / q.den + 1).natAbs < lim := Nat.lt_of_le_of_lt (floor_up (by omega) h0) h.1
      exact round_up_2 _ _ _ _ _ _ _ _ _ hz W hW H1 H2 H3 H4 H5 H6 (fun W hW => by have k := add_rep l1 (Dg.lim dg_one (by omega)) rfl l4 W hW; rw [rep_one] at k; exact k)
theorem Round_q3 (q : Rat) (h : Sml q) (w : World) (hv : VarR w) : Calls Tryz.prog 34 #[.string (rq q), .int .u8 3] w (StE (rep (rndQ 3 q)) 0 w) := by
  obtain ⟨l1, l2, l3⟩ := rnd_lims h
  refine Round_3 _ _ _ _ w hv (fun W hW => parse_q q h W hW) (fun W hW => ?_)
  have H1 := fun W hW => divmod_rep h.1 h.2 (den_ne q) rfl rfl _ _ _ _ rfl rfl rfl rfl W hW
  unfold rndQ
  by_cases h0 : q.num % q.den = 0
  · rw [if_pos h0]
    exact round_zero _ _ _ _ _ (by rw [rep_is_zero]; exact decide_eq_true h0) W hW H1
  · rw [if_neg h0]
    have hz : ((rep (q.num % q.den)).toList == [48]) = false := by rw [rep_is_zero]; exact decide_eq_false h0
    have H2 := fun W hW => sub_rep h.2 l2 rfl l3 W hW
    have H3 := fun W hW => compare_rep l2 l3 rfl _ _ rfl rfl W hW
    have H4 := fun W => negative_any' (rep q.num) _ (rep_ng q.num) W
    have H5 := fun W => odd_q _ l1 W
    have H6 := fun W => above_3 (decide (q.num < 0)) (decide ((q.num / q.den) % 2 = 1)) (cmpZ (q.num % q.den) (q.den - q.num % q.den)) (cmp_three _ _) W
    have e : upB 3 (decide (q.num < 0)) (decide ((q.num / q.den) % 2 = 1)) (cmpZ (q.num % q.den) (q.den - q.num % q.den)) = rndUp 3 q := rfl
    rw [e] at H6
    have hd := q.den_pos
    cases hu : rndUp 3 q
    · rw [hu] at H6
      rw [if_neg (by decide)]
      exact round_stay_3 _ _ _ _ _ _ _ _ hz W hW H1 H2 H3 H4 H5 H6
    · rw [hu] at H6
      rw [if_pos rfl]
      have l4 : (q.num / q.den + 1).natAbs < lim := Nat.lt_of_le_of_lt (floor_up (by omega) h0) h.1
      exact round_up_3 _ _ _ _ _ _ _ _ _ hz W hW H1 H2 H3 H4 H5 H6 (fun W hW => by have k := add_rep l1 (Dg.lim dg_one (by omega)) rfl l4 W hW; rw [rep_one] at k; exact k)
theorem Round_q4 (q : Rat) (h : Sml q) (w : World) (hv : VarR w) : Calls Tryz.prog 34 #[.string (rq q), .int .u8 4] w (StE (rep (rndQ 4 q)) 0 w) := by
  obtain ⟨l1, l2, l3⟩ := rnd_lims h
  refine Round_4 _ _ _ _ w hv (fun W hW => parse_q q h W hW) (fun W hW => ?_)
  have H1 := fun W hW => divmod_rep h.1 h.2 (den_ne q) rfl rfl _ _ _ _ rfl rfl rfl rfl W hW
  unfold rndQ
  by_cases h0 : q.num % q.den = 0
  · rw [if_pos h0]
    exact round_zero _ _ _ _ _ (by rw [rep_is_zero]; exact decide_eq_true h0) W hW H1
  · rw [if_neg h0]
    have hz : ((rep (q.num % q.den)).toList == [48]) = false := by rw [rep_is_zero]; exact decide_eq_false h0
    have H2 := fun W hW => sub_rep h.2 l2 rfl l3 W hW
    have H3 := fun W hW => compare_rep l2 l3 rfl _ _ rfl rfl W hW
    have H4 := fun W => negative_any' (rep q.num) _ (rep_ng q.num) W
    have H5 := fun W => odd_q _ l1 W
    have H6 := fun W => above_4 (decide (q.num < 0)) (decide ((q.num / q.den) % 2 = 1)) (cmpZ (q.num % q.den) (q.den - q.num % q.den)) W
    have e : upB 4 (decide (q.num < 0)) (decide ((q.num / q.den) % 2 = 1)) (cmpZ (q.num % q.den) (q.den - q.num % q.den)) = rndUp 4 q := rfl
    rw [e] at H6
    have hu : rndUp 4 q = false := rfl
    rw [hu] at H6 ⊢
    rw [if_neg (by decide)]
    exact round_stay_4 _ _ _ _ _ _ _ _ hz W hW H1 H2 H3 H4 H5 H6
theorem Round_any (s : ByteArray) (hs : s.size ≤ 1048576) (m : Int) (h0 : 0 ≤ m) (h255 : m ≤ 255) (w : World) (hv : VarR w) :
    Calls Tryz.prog 34 #[.string s, .int .u8 m] w (StE (roT m s.data.toList) (roC m s.data.toList) w) := by
  unfold roT roC
  by_cases h5 : 5 ≤ m
  · rw [if_pos h5, if_neg (by decide)]
    exact Round_mode s m h5 h255 w
  rw [if_neg h5]
  rcases text_cases s with h1 | ⟨q, rfl, hq⟩
  · rw [if_neg h1]
    exact Round_parse s _ _ m _ h0 (by omega) h1 w hv (fun W hW => parse_e s hs h1 W hW)
  rw [rq_chk hq, if_pos rfl, qv_rq]
  obtain ⟨k, rfl⟩ := Int.eq_ofNat_of_zero_le h0
  have hk : k = 0 ∨ k = 1 ∨ k = 2 ∨ k = 3 ∨ k = 4 := by omega
  rcases hk with rfl | rfl | rfl | rfl | rfl
  · exact Round_q0 q hq w hv
  · exact Round_q1 q hq w hv
  · exact Round_q2 q hq w hv
  · exact Round_q3 q hq w hv
  · exact Round_q4 q hq w hv
end Go.Proofs.YtalnfbgaiegicaaGreatDoor

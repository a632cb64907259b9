/- The walk of the law CalendarNearest: rules that keep the month. -/
import Derived.Test.YtgnmcjfocnnffaaDoorCalL5
namespace Go.Proofs.YtgnmcjfocnnffaaDoor
open Go Go.RowKit

set_option maxRecDepth 100000 in
set_option maxHeartbeats 1600000 in
theorem near_3aG (we : Int) (A : Option Addr) (c : Nat) (hs : List Int) (day r y m d d2 : Int) (w : World) (h : CalIn w we A c hs) (hV : VarS w) (hg : ∀ w', Below w.heap.size w w' → GrtS we A c hs false w') (hr : ∀ w', Below w.heap.size w w' → RlcS we A c hs day 3 r 0 w') (hbr : ∀ w', Below w.heap.size w w' → BusS we A c hs r true 0 w') (hbd : ∀ w', Below w.heap.size w w' → BusS we A c hs day false 0 w') (hc : ∀ w', Below w.heap.size w w' → CntS we A c hs day r 0 0 w') (hrd : day < r) (ho : ∀ w', Below w.heap.size w w' → RlcS we A c hs day 1 r 0 w') (hp1 : ∀ w', Below w.heap.size w w' → PtsS day y m d w') (hp2 : ∀ w', Below w.heap.size w w' → PtsS r y m d2 w') :
    Calls Tryd.prog 6 #[.agg #[.int .u8 we, .slice A hs.length c], .int .i64 day, .int .u8 3] w fun e w' => e = .returned (.bool true) ∧ Below w.heap.size w w' := by
  have C1 := Lib.hid (CalAt.new (we := we) (c := c) h.rd)
  have B1 := Lib.hid (bel1 w (.cells #[.int .u8 we, .slice A hs.length c] 24))
  have c0 := C1.out.c0
  have c1 := C1.out.c1
  have HL : Hid (∀ w', Below w.heap.size w w' → Calls _ _ _ _ _) := fun w' hb => calive_any w' (hV.below hb)
  have HG : Hid (∀ w', Below w.heap.size w w' → Calls _ _ _ _ _) := hg
  clear hg
  have HR : Hid (∀ w', Below w.heap.size w w' → Calls _ _ _ _ _) := hr
  clear hr
  have HBr : Hid (∀ w', Below w.heap.size w w' → Calls _ _ _ _ _) := hbr
  clear hbr
  have HBd : Hid (∀ w', Below w.heap.size w w' → Calls _ _ _ _ _) := hbd
  clear hbd
  have HC : Hid (∀ w', Below w.heap.size w w' → Calls _ _ _ _ _) := hc
  clear hc
  have HO : Hid (∀ w', Below w.heap.size w w' → Calls _ _ _ _ _) := ho
  clear ho
  have HP1 : Hid (∀ w', Below w.heap.size w w' → Calls _ _ _ _ _) := hp1
  clear hp1
  have HP2 : Hid (∀ w', Below w.heap.size w w' → Calls _ _ _ _ _) := hp2
  clear hp2
  clear h hV
  have hne : (r != day) = true := by rw [bne_iff_ne]; omega
  have hne1 : (r == day) = false := by rw [beq_eq_false_iff_ne]; omega
  go_enter Tryd.func6, Tryd.ntmps6
  go_wp2_with (first
    | (go_at_call 17; ((with_reducible refine (HL.out _ B1.out).mono ?_); rintro x w2 ⟨rfl, hb⟩; have B2 := Lib.hid (bt B1.out hb); have C2 := Lib.hid (C1.out.below hb); have k0 := C2.out.c0; have k1 := C2.out.c1; clear hb))
    | (go_at_call 19; ((with_reducible refine (HG.out _ B2.out).mono ?_); rintro x w3 ⟨rfl, hb⟩; have B3 := Lib.hid (bt B2.out hb); have C3 := Lib.hid (C2.out.below hb); have k0 := C3.out.c0; have k1 := C3.out.c1; clear hb))
    | (go_at_call 12; ((with_reducible refine (HR.out _ B3.out).mono ?_); rintro x w4 ⟨rfl, hb⟩; have B4 := Lib.hid (bt B3.out hb); have C4 := Lib.hid (C3.out.below hb); have k0 := C4.out.c0; have k1 := C4.out.c1; clear hb))
    | (go_at_call 11; ((with_reducible refine (HBr.out _ B4.out).mono ?_); rintro x w5 ⟨rfl, hb⟩; have B5 := Lib.hid (bt B4.out hb); have C5 := Lib.hid (C4.out.below hb); have k0 := C5.out.c0; have k1 := C5.out.c1; clear hb))
    | (go_at_call 11; ((with_reducible refine (HBd.out _ B5.out).mono ?_); rintro x w6 ⟨rfl, hb⟩; have B6 := Lib.hid (bt B5.out hb); have C6 := Lib.hid (C5.out.below hb); have k0 := C6.out.c0; have k1 := C6.out.c1; clear hb))
    | (go_at_call 14; ((with_reducible refine (HC.out _ B6.out).mono ?_); rintro x w7 ⟨rfl, hb⟩; have B7 := Lib.hid (bt B6.out hb); have C7 := Lib.hid (C6.out.below hb); have k0 := C7.out.c0; have k1 := C7.out.c1; clear hb))
    | (go_at_call 12; ((with_reducible refine (HO.out _ B7.out).mono ?_); rintro x w8 ⟨rfl, hb⟩; have B8 := Lib.hid (bt B7.out hb); clear hb))
    | (go_at_call 23; ((with_reducible refine (HP1.out _ B8.out).mono ?_); rintro x w' ⟨rfl, rfl⟩))
    | (go_at_call 23; ((with_reducible refine (HP2.out _ B8.out).mono ?_); rintro x w' ⟨rfl, rfl⟩)))
  go_ret
  first
    | exact ⟨rfl, B8.out⟩
    | exact ⟨ret_bool (by simp [*]), B8.out⟩

set_option maxRecDepth 100000 in
set_option maxHeartbeats 1600000 in
theorem near_3bG (we : Int) (A : Option Addr) (c : Nat) (hs : List Int) (day r y m d y2 m2 d2 e : Int) (w : World) (h : CalIn w we A c hs) (hV : VarS w) (hg : ∀ w', Below w.heap.size w w' → GrtS we A c hs false w') (hr : ∀ w', Below w.heap.size w w' → RlcS we A c hs day 3 r 0 w') (hbr : ∀ w', Below w.heap.size w w' → BusS we A c hs r true 0 w') (hbd : ∀ w', Below w.heap.size w w' → BusS we A c hs day false 0 w') (hc : ∀ w', Below w.heap.size w w' → CntS we A c hs day r 0 0 w') (hrd : day < r) (ho : ∀ w', Below w.heap.size w w' → RlcS we A c hs day 1 0 e w') (hp1 : ∀ w', Below w.heap.size w w' → PtsS day y m d w') (hp2 : ∀ w', Below w.heap.size w w' → PtsS 0 y2 m2 d2 w') (hq : ∀ w', Below w.heap.size w w' → RlcS we A c hs day 2 r 0 w') (he : e ≠ 0) :
    Calls Tryd.prog 6 #[.agg #[.int .u8 we, .slice A hs.length c], .int .i64 day, .int .u8 3] w fun e w' => e = .returned (.bool true) ∧ Below w.heap.size w w' := by
  have C1 := Lib.hid (CalAt.new (we := we) (c := c) h.rd)
  have B1 := Lib.hid (bel1 w (.cells #[.int .u8 we, .slice A hs.length c] 24))
  have c0 := C1.out.c0
  have c1 := C1.out.c1
  have HL : Hid (∀ w', Below w.heap.size w w' → Calls _ _ _ _ _) := fun w' hb => calive_any w' (hV.below hb)
  have HG : Hid (∀ w', Below w.heap.size w w' → Calls _ _ _ _ _) := hg
  clear hg
  have HR : Hid (∀ w', Below w.heap.size w w' → Calls _ _ _ _ _) := hr
  clear hr
  have HBr : Hid (∀ w', Below w.heap.size w w' → Calls _ _ _ _ _) := hbr
  clear hbr
  have HBd : Hid (∀ w', Below w.heap.size w w' → Calls _ _ _ _ _) := hbd
  clear hbd
  have HC : Hid (∀ w', Below w.heap.size w w' → Calls _ _ _ _ _) := hc
  clear hc
  have HO : Hid (∀ w', Below w.heap.size w w' → Calls _ _ _ _ _) := ho
  clear ho
  have HP1 : Hid (∀ w', Below w.heap.size w w' → Calls _ _ _ _ _) := hp1
  clear hp1
  have HP2 : Hid (∀ w', Below w.heap.size w w' → Calls _ _ _ _ _) := hp2
  clear hp2
  have HQ : Hid (∀ w', Below w.heap.size w w' → Calls _ _ _ _ _) := hq
  clear hq
  clear h hV
  have hne : (r != day) = true := by rw [bne_iff_ne]; omega
  have hne1 : (r == day) = false := by rw [beq_eq_false_iff_ne]; omega
  have he1 : (e == 0) = false := by rw [beq_eq_false_iff_ne]; exact he
  clear he
  go_enter Tryd.func6, Tryd.ntmps6
  go_wp2_with (first
    | (go_at_call 17; ((with_reducible refine (HL.out _ B1.out).mono ?_); rintro x w2 ⟨rfl, hb⟩; have B2 := Lib.hid (bt B1.out hb); have C2 := Lib.hid (C1.out.below hb); have k0 := C2.out.c0; have k1 := C2.out.c1; clear hb))
    | (go_at_call 19; ((with_reducible refine (HG.out _ B2.out).mono ?_); rintro x w3 ⟨rfl, hb⟩; have B3 := Lib.hid (bt B2.out hb); have C3 := Lib.hid (C2.out.below hb); have k0 := C3.out.c0; have k1 := C3.out.c1; clear hb))
    | (go_at_call 12; ((with_reducible refine (HR.out _ B3.out).mono ?_); rintro x w4 ⟨rfl, hb⟩; have B4 := Lib.hid (bt B3.out hb); have C4 := Lib.hid (C3.out.below hb); have k0 := C4.out.c0; have k1 := C4.out.c1; clear hb))
    | (go_at_call 11; ((with_reducible refine (HBr.out _ B4.out).mono ?_); rintro x w5 ⟨rfl, hb⟩; have B5 := Lib.hid (bt B4.out hb); have C5 := Lib.hid (C4.out.below hb); have k0 := C5.out.c0; have k1 := C5.out.c1; clear hb))
    | (go_at_call 11; ((with_reducible refine (HBd.out _ B5.out).mono ?_); rintro x w6 ⟨rfl, hb⟩; have B6 := Lib.hid (bt B5.out hb); have C6 := Lib.hid (C5.out.below hb); have k0 := C6.out.c0; have k1 := C6.out.c1; clear hb))
    | (go_at_call 14; ((with_reducible refine (HC.out _ B6.out).mono ?_); rintro x w7 ⟨rfl, hb⟩; have B7 := Lib.hid (bt B6.out hb); have C7 := Lib.hid (C6.out.below hb); have k0 := C7.out.c0; have k1 := C7.out.c1; clear hb))
    | (go_at_call 12; ((with_reducible refine (HO.out _ B7.out).mono ?_); rintro x w8 ⟨rfl, hb⟩; have B8 := Lib.hid (bt B7.out hb); have C8 := Lib.hid (C7.out.below hb); have k0 := C8.out.c0; have k1 := C8.out.c1; clear hb))
    | (go_at_call 23; ((with_reducible refine (HP1.out _ B8.out).mono ?_); rintro x w' ⟨rfl, rfl⟩))
    | (go_at_call 23; ((with_reducible refine (HP2.out _ B8.out).mono ?_); rintro x w' ⟨rfl, rfl⟩))
    | (go_at_call 12; ((with_reducible refine (HQ.out _ B8.out).mono ?_); rintro x w9 ⟨rfl, hb⟩; have B9 := Lib.hid (bt B8.out hb); clear hb)))
  go_ret
  first
    | exact ⟨rfl, B9.out⟩
    | exact ⟨ret_bool (by simp [*]), B9.out⟩

set_option maxRecDepth 100000 in
set_option maxHeartbeats 1600000 in
theorem near_3cG (we : Int) (A : Option Addr) (c : Nat) (hs : List Int) (day r t y m d y2 m2 d2 : Int) (w : World) (h : CalIn w we A c hs) (hV : VarS w) (hg : ∀ w', Below w.heap.size w w' → GrtS we A c hs false w') (hr : ∀ w', Below w.heap.size w w' → RlcS we A c hs day 3 r 0 w') (hbr : ∀ w', Below w.heap.size w w' → BusS we A c hs r true 0 w') (hbd : ∀ w', Below w.heap.size w w' → BusS we A c hs day false 0 w') (hc : ∀ w', Below w.heap.size w w' → CntS we A c hs day r 0 0 w') (hrd : day < r) (ho : ∀ w', Below w.heap.size w w' → RlcS we A c hs day 1 t 0 w') (hp1 : ∀ w', Below w.heap.size w w' → PtsS day y m d w') (hp2 : ∀ w', Below w.heap.size w w' → PtsS t y2 m2 d2 w') (hq : ∀ w', Below w.heap.size w w' → RlcS we A c hs day 2 r 0 w') (hy : y ≠ y2) :
    Calls Tryd.prog 6 #[.agg #[.int .u8 we, .slice A hs.length c], .int .i64 day, .int .u8 3] w fun e w' => e = .returned (.bool true) ∧ Below w.heap.size w w' := by
  have C1 := Lib.hid (CalAt.new (we := we) (c := c) h.rd)
  have B1 := Lib.hid (bel1 w (.cells #[.int .u8 we, .slice A hs.length c] 24))
  have c0 := C1.out.c0
  have c1 := C1.out.c1
  have HL : Hid (∀ w', Below w.heap.size w w' → Calls _ _ _ _ _) := fun w' hb => calive_any w' (hV.below hb)
  have HG : Hid (∀ w', Below w.heap.size w w' → Calls _ _ _ _ _) := hg
  clear hg
  have HR : Hid (∀ w', Below w.heap.size w w' → Calls _ _ _ _ _) := hr
  clear hr
  have HBr : Hid (∀ w', Below w.heap.size w w' → Calls _ _ _ _ _) := hbr
  clear hbr
  have HBd : Hid (∀ w', Below w.heap.size w w' → Calls _ _ _ _ _) := hbd
  clear hbd
  have HC : Hid (∀ w', Below w.heap.size w w' → Calls _ _ _ _ _) := hc
  clear hc
  have HO : Hid (∀ w', Below w.heap.size w w' → Calls _ _ _ _ _) := ho
  clear ho
  have HP1 : Hid (∀ w', Below w.heap.size w w' → Calls _ _ _ _ _) := hp1
  clear hp1
  have HP2 : Hid (∀ w', Below w.heap.size w w' → Calls _ _ _ _ _) := hp2
  clear hp2
  have HQ : Hid (∀ w', Below w.heap.size w w' → Calls _ _ _ _ _) := hq
  clear hq
  clear h hV
  have hne : (r != day) = true := by rw [bne_iff_ne]; omega
  have hne1 : (r == day) = false := by rw [beq_eq_false_iff_ne]; omega
  have hy1 : (y == y2) = false := by rw [beq_eq_false_iff_ne]; exact hy
  clear hy
  go_enter Tryd.func6, Tryd.ntmps6
  go_wp2_with (first
    | (go_at_call 17; ((with_reducible refine (HL.out _ B1.out).mono ?_); rintro x w2 ⟨rfl, hb⟩; have B2 := Lib.hid (bt B1.out hb); have C2 := Lib.hid (C1.out.below hb); have k0 := C2.out.c0; have k1 := C2.out.c1; clear hb))
    | (go_at_call 19; ((with_reducible refine (HG.out _ B2.out).mono ?_); rintro x w3 ⟨rfl, hb⟩; have B3 := Lib.hid (bt B2.out hb); have C3 := Lib.hid (C2.out.below hb); have k0 := C3.out.c0; have k1 := C3.out.c1; clear hb))
    | (go_at_call 12; ((with_reducible refine (HR.out _ B3.out).mono ?_); rintro x w4 ⟨rfl, hb⟩; have B4 := Lib.hid (bt B3.out hb); have C4 := Lib.hid (C3.out.below hb); have k0 := C4.out.c0; have k1 := C4.out.c1; clear hb))
    | (go_at_call 11; ((with_reducible refine (HBr.out _ B4.out).mono ?_); rintro x w5 ⟨rfl, hb⟩; have B5 := Lib.hid (bt B4.out hb); have C5 := Lib.hid (C4.out.below hb); have k0 := C5.out.c0; have k1 := C5.out.c1; clear hb))
    | (go_at_call 11; ((with_reducible refine (HBd.out _ B5.out).mono ?_); rintro x w6 ⟨rfl, hb⟩; have B6 := Lib.hid (bt B5.out hb); have C6 := Lib.hid (C5.out.below hb); have k0 := C6.out.c0; have k1 := C6.out.c1; clear hb))
    | (go_at_call 14; ((with_reducible refine (HC.out _ B6.out).mono ?_); rintro x w7 ⟨rfl, hb⟩; have B7 := Lib.hid (bt B6.out hb); have C7 := Lib.hid (C6.out.below hb); have k0 := C7.out.c0; have k1 := C7.out.c1; clear hb))
    | (go_at_call 12; ((with_reducible refine (HO.out _ B7.out).mono ?_); rintro x w8 ⟨rfl, hb⟩; have B8 := Lib.hid (bt B7.out hb); have C8 := Lib.hid (C7.out.below hb); have k0 := C8.out.c0; have k1 := C8.out.c1; clear hb))
    | (go_at_call 23; ((with_reducible refine (HP1.out _ B8.out).mono ?_); rintro x w' ⟨rfl, rfl⟩))
    | (go_at_call 23; ((with_reducible refine (HP2.out _ B8.out).mono ?_); rintro x w' ⟨rfl, rfl⟩))
    | (go_at_call 12; ((with_reducible refine (HQ.out _ B8.out).mono ?_); rintro x w9 ⟨rfl, hb⟩; have B9 := Lib.hid (bt B8.out hb); clear hb)))
  go_ret
  first
    | exact ⟨rfl, B9.out⟩
    | exact ⟨ret_bool (by simp [*]), B9.out⟩

set_option maxRecDepth 100000 in
set_option maxHeartbeats 1600000 in
theorem near_3dG (we : Int) (A : Option Addr) (c : Nat) (hs : List Int) (day r t y m d m2 d2 : Int) (w : World) (h : CalIn w we A c hs) (hV : VarS w) (hg : ∀ w', Below w.heap.size w w' → GrtS we A c hs false w') (hr : ∀ w', Below w.heap.size w w' → RlcS we A c hs day 3 r 0 w') (hbr : ∀ w', Below w.heap.size w w' → BusS we A c hs r true 0 w') (hbd : ∀ w', Below w.heap.size w w' → BusS we A c hs day false 0 w') (hc : ∀ w', Below w.heap.size w w' → CntS we A c hs day r 0 0 w') (hrd : day < r) (ho : ∀ w', Below w.heap.size w w' → RlcS we A c hs day 1 t 0 w') (hp1 : ∀ w', Below w.heap.size w w' → PtsS day y m d w') (hp2 : ∀ w', Below w.heap.size w w' → PtsS t y m2 d2 w') (hq : ∀ w', Below w.heap.size w w' → RlcS we A c hs day 2 r 0 w') (hm : m ≠ m2) :
    Calls Tryd.prog 6 #[.agg #[.int .u8 we, .slice A hs.length c], .int .i64 day, .int .u8 3] w fun e w' => e = .returned (.bool true) ∧ Below w.heap.size w w' := by
  have C1 := Lib.hid (CalAt.new (we := we) (c := c) h.rd)
  have B1 := Lib.hid (bel1 w (.cells #[.int .u8 we, .slice A hs.length c] 24))
  have c0 := C1.out.c0
  have c1 := C1.out.c1
  have HL : Hid (∀ w', Below w.heap.size w w' → Calls _ _ _ _ _) := fun w' hb => calive_any w' (hV.below hb)
  have HG : Hid (∀ w', Below w.heap.size w w' → Calls _ _ _ _ _) := hg
  clear hg
  have HR : Hid (∀ w', Below w.heap.size w w' → Calls _ _ _ _ _) := hr
  clear hr
  have HBr : Hid (∀ w', Below w.heap.size w w' → Calls _ _ _ _ _) := hbr
  clear hbr
  have HBd : Hid (∀ w', Below w.heap.size w w' → Calls _ _ _ _ _) := hbd
  clear hbd
  have HC : Hid (∀ w', Below w.heap.size w w' → Calls _ _ _ _ _) := hc
  clear hc
  have HO : Hid (∀ w', Below w.heap.size w w' → Calls _ _ _ _ _) := ho
  clear ho
  have HP1 : Hid (∀ w', Below w.heap.size w w' → Calls _ _ _ _ _) := hp1
  clear hp1
  have HP2 : Hid (∀ w', Below w.heap.size w w' → Calls _ _ _ _ _) := hp2
  clear hp2
  have HQ : Hid (∀ w', Below w.heap.size w w' → Calls _ _ _ _ _) := hq
  clear hq
  clear h hV
  have hne : (r != day) = true := by rw [bne_iff_ne]; omega
  have hne1 : (r == day) = false := by rw [beq_eq_false_iff_ne]; omega
  have hy1 : (m == m2) = false := by rw [beq_eq_false_iff_ne]; exact hm
  clear hm
  go_enter Tryd.func6, Tryd.ntmps6
  go_wp2_with (first
    | (go_at_call 17; ((with_reducible refine (HL.out _ B1.out).mono ?_); rintro x w2 ⟨rfl, hb⟩; have B2 := Lib.hid (bt B1.out hb); have C2 := Lib.hid (C1.out.below hb); have k0 := C2.out.c0; have k1 := C2.out.c1; clear hb))
    | (go_at_call 19; ((with_reducible refine (HG.out _ B2.out).mono ?_); rintro x w3 ⟨rfl, hb⟩; have B3 := Lib.hid (bt B2.out hb); have C3 := Lib.hid (C2.out.below hb); have k0 := C3.out.c0; have k1 := C3.out.c1; clear hb))
    | (go_at_call 12; ((with_reducible refine (HR.out _ B3.out).mono ?_); rintro x w4 ⟨rfl, hb⟩; have B4 := Lib.hid (bt B3.out hb); have C4 := Lib.hid (C3.out.below hb); have k0 := C4.out.c0; have k1 := C4.out.c1; clear hb))
    | (go_at_call 11; ((with_reducible refine (HBr.out _ B4.out).mono ?_); rintro x w5 ⟨rfl, hb⟩; have B5 := Lib.hid (bt B4.out hb); have C5 := Lib.hid (C4.out.below hb); have k0 := C5.out.c0; have k1 := C5.out.c1; clear hb))
    | (go_at_call 11; ((with_reducible refine (HBd.out _ B5.out).mono ?_); rintro x w6 ⟨rfl, hb⟩; have B6 := Lib.hid (bt B5.out hb); have C6 := Lib.hid (C5.out.below hb); have k0 := C6.out.c0; have k1 := C6.out.c1; clear hb))
    | (go_at_call 14; ((with_reducible refine (HC.out _ B6.out).mono ?_); rintro x w7 ⟨rfl, hb⟩; have B7 := Lib.hid (bt B6.out hb); have C7 := Lib.hid (C6.out.below hb); have k0 := C7.out.c0; have k1 := C7.out.c1; clear hb))
    | (go_at_call 12; ((with_reducible refine (HO.out _ B7.out).mono ?_); rintro x w8 ⟨rfl, hb⟩; have B8 := Lib.hid (bt B7.out hb); have C8 := Lib.hid (C7.out.below hb); have k0 := C8.out.c0; have k1 := C8.out.c1; clear hb))
    | (go_at_call 23; ((with_reducible refine (HP1.out _ B8.out).mono ?_); rintro x w' ⟨rfl, rfl⟩))
    | (go_at_call 23; ((with_reducible refine (HP2.out _ B8.out).mono ?_); rintro x w' ⟨rfl, rfl⟩))
    | (go_at_call 12; ((with_reducible refine (HQ.out _ B8.out).mono ?_); rintro x w9 ⟨rfl, hb⟩; have B9 := Lib.hid (bt B8.out hb); clear hb)))
  go_ret
  first
    | exact ⟨rfl, B9.out⟩
    | exact ⟨ret_bool (by simp [*]), B9.out⟩

set_option maxRecDepth 100000 in
set_option maxHeartbeats 1600000 in
theorem near_4aE (we : Int) (A : Option Addr) (c : Nat) (hs : List Int) (day y m d d2 : Int) (w : World) (h : CalIn w we A c hs) (hV : VarS w) (hg : ∀ w', Below w.heap.size w w' → GrtS we A c hs false w') (hr : ∀ w', Below w.heap.size w w' → RlcS we A c hs day 4 day 0 w') (hbr : ∀ w', Below w.heap.size w w' → BusS we A c hs day true 0 w') (hbd : ∀ w', Below w.heap.size w w' → BusS we A c hs day true 0 w') (hc : ∀ w', Below w.heap.size w w' → CntS we A c hs day day 0 0 w') (ho : ∀ w', Below w.heap.size w w' → RlcS we A c hs day 2 day 0 w') (hp1 : ∀ w', Below w.heap.size w w' → PtsS day y m d w') (hp2 : ∀ w', Below w.heap.size w w' → PtsS day y m d2 w') :
    Calls Tryd.prog 6 #[.agg #[.int .u8 we, .slice A hs.length c], .int .i64 day, .int .u8 4] w fun e w' => e = .returned (.bool true) ∧ Below w.heap.size w w' := by
  have C1 := Lib.hid (CalAt.new (we := we) (c := c) h.rd)
  have B1 := Lib.hid (bel1 w (.cells #[.int .u8 we, .slice A hs.length c] 24))
  have c0 := C1.out.c0
  have c1 := C1.out.c1
  have HL : Hid (∀ w', Below w.heap.size w w' → Calls _ _ _ _ _) := fun w' hb => calive_any w' (hV.below hb)
  have HG : Hid (∀ w', Below w.heap.size w w' → Calls _ _ _ _ _) := hg
  clear hg
  have HR : Hid (∀ w', Below w.heap.size w w' → Calls _ _ _ _ _) := hr
  clear hr
  have HBr : Hid (∀ w', Below w.heap.size w w' → Calls _ _ _ _ _) := hbr
  clear hbr
  have HBd : Hid (∀ w', Below w.heap.size w w' → Calls _ _ _ _ _) := hbd
  clear hbd
  have HC : Hid (∀ w', Below w.heap.size w w' → Calls _ _ _ _ _) := hc
  clear hc
  have HO : Hid (∀ w', Below w.heap.size w w' → Calls _ _ _ _ _) := ho
  clear ho
  have HP1 : Hid (∀ w', Below w.heap.size w w' → Calls _ _ _ _ _) := hp1
  clear hp1
  have HP2 : Hid (∀ w', Below w.heap.size w w' → Calls _ _ _ _ _) := hp2
  clear hp2
  clear h hV
  go_enter Tryd.func6, Tryd.ntmps6
  go_wp2_with (first
    | (go_at_call 17; ((with_reducible refine (HL.out _ B1.out).mono ?_); rintro x w2 ⟨rfl, hb⟩; have B2 := Lib.hid (bt B1.out hb); have C2 := Lib.hid (C1.out.below hb); have k0 := C2.out.c0; have k1 := C2.out.c1; clear hb))
    | (go_at_call 19; ((with_reducible refine (HG.out _ B2.out).mono ?_); rintro x w3 ⟨rfl, hb⟩; have B3 := Lib.hid (bt B2.out hb); have C3 := Lib.hid (C2.out.below hb); have k0 := C3.out.c0; have k1 := C3.out.c1; clear hb))
    | (go_at_call 12; ((with_reducible refine (HR.out _ B3.out).mono ?_); rintro x w4 ⟨rfl, hb⟩; have B4 := Lib.hid (bt B3.out hb); have C4 := Lib.hid (C3.out.below hb); have k0 := C4.out.c0; have k1 := C4.out.c1; clear hb))
    | (go_at_call 11; ((with_reducible refine (HBr.out _ B4.out).mono ?_); rintro x w5 ⟨rfl, hb⟩; have B5 := Lib.hid (bt B4.out hb); have C5 := Lib.hid (C4.out.below hb); have k0 := C5.out.c0; have k1 := C5.out.c1; clear hb))
    | (go_at_call 11; ((with_reducible refine (HBd.out _ B5.out).mono ?_); rintro x w6 ⟨rfl, hb⟩; have B6 := Lib.hid (bt B5.out hb); have C6 := Lib.hid (C5.out.below hb); have k0 := C6.out.c0; have k1 := C6.out.c1; clear hb))
    | (go_at_call 14; ((with_reducible refine (HC.out _ B6.out).mono ?_); rintro x w7 ⟨rfl, hb⟩; have B7 := Lib.hid (bt B6.out hb); have C7 := Lib.hid (C6.out.below hb); have k0 := C7.out.c0; have k1 := C7.out.c1; clear hb))
    | (go_at_call 12; ((with_reducible refine (HO.out _ B7.out).mono ?_); rintro x w8 ⟨rfl, hb⟩; have B8 := Lib.hid (bt B7.out hb); clear hb))
    | (go_at_call 23; ((with_reducible refine (HP1.out _ B8.out).mono ?_); rintro x w' ⟨rfl, rfl⟩))
    | (go_at_call 23; ((with_reducible refine (HP2.out _ B8.out).mono ?_); rintro x w' ⟨rfl, rfl⟩)))
  go_ret
  first
    | exact ⟨rfl, B8.out⟩
    | exact ⟨ret_bool (by simp [*]), B8.out⟩

set_option maxRecDepth 100000 in
set_option maxHeartbeats 1600000 in
theorem near_4bE (we : Int) (A : Option Addr) (c : Nat) (hs : List Int) (day y m d y2 m2 d2 e : Int) (w : World) (h : CalIn w we A c hs) (hV : VarS w) (hg : ∀ w', Below w.heap.size w w' → GrtS we A c hs false w') (hr : ∀ w', Below w.heap.size w w' → RlcS we A c hs day 4 day 0 w') (hbr : ∀ w', Below w.heap.size w w' → BusS we A c hs day true 0 w') (hbd : ∀ w', Below w.heap.size w w' → BusS we A c hs day true 0 w') (hc : ∀ w', Below w.heap.size w w' → CntS we A c hs day day 0 0 w') (ho : ∀ w', Below w.heap.size w w' → RlcS we A c hs day 2 0 e w') (hp1 : ∀ w', Below w.heap.size w w' → PtsS day y m d w') (hp2 : ∀ w', Below w.heap.size w w' → PtsS 0 y2 m2 d2 w') (hq : ∀ w', Below w.heap.size w w' → RlcS we A c hs day 1 day 0 w') (he : e ≠ 0) :
    Calls Tryd.prog 6 #[.agg #[.int .u8 we, .slice A hs.length c], .int .i64 day, .int .u8 4] w fun e w' => e = .returned (.bool true) ∧ Below w.heap.size w w' := by
  have C1 := Lib.hid (CalAt.new (we := we) (c := c) h.rd)
  have B1 := Lib.hid (bel1 w (.cells #[.int .u8 we, .slice A hs.length c] 24))
  have c0 := C1.out.c0
  have c1 := C1.out.c1
  have HL : Hid (∀ w', Below w.heap.size w w' → Calls _ _ _ _ _) := fun w' hb => calive_any w' (hV.below hb)
  have HG : Hid (∀ w', Below w.heap.size w w' → Calls _ _ _ _ _) := hg
  clear hg
  have HR : Hid (∀ w', Below w.heap.size w w' → Calls _ _ _ _ _) := hr
  clear hr
  have HBr : Hid (∀ w', Below w.heap.size w w' → Calls _ _ _ _ _) := hbr
  clear hbr
  have HBd : Hid (∀ w', Below w.heap.size w w' → Calls _ _ _ _ _) := hbd
  clear hbd
  have HC : Hid (∀ w', Below w.heap.size w w' → Calls _ _ _ _ _) := hc
  clear hc
  have HO : Hid (∀ w', Below w.heap.size w w' → Calls _ _ _ _ _) := ho
  clear ho
  have HP1 : Hid (∀ w', Below w.heap.size w w' → Calls _ _ _ _ _) := hp1
  clear hp1
  have HP2 : Hid (∀ w', Below w.heap.size w w' → Calls _ _ _ _ _) := hp2
  clear hp2
  have HQ : Hid (∀ w', Below w.heap.size w w' → Calls _ _ _ _ _) := hq
  clear hq
  clear h hV
  have he1 : (e == 0) = false := by rw [beq_eq_false_iff_ne]; exact he
  clear he
  go_enter Tryd.func6, Tryd.ntmps6
  go_wp2_with (first
    | (go_at_call 17; ((with_reducible refine (HL.out _ B1.out).mono ?_); rintro x w2 ⟨rfl, hb⟩; have B2 := Lib.hid (bt B1.out hb); have C2 := Lib.hid (C1.out.below hb); have k0 := C2.out.c0; have k1 := C2.out.c1; clear hb))
    | (go_at_call 19; ((with_reducible refine (HG.out _ B2.out).mono ?_); rintro x w3 ⟨rfl, hb⟩; have B3 := Lib.hid (bt B2.out hb); have C3 := Lib.hid (C2.out.below hb); have k0 := C3.out.c0; have k1 := C3.out.c1; clear hb))
    | (go_at_call 12; ((with_reducible refine (HR.out _ B3.out).mono ?_); rintro x w4 ⟨rfl, hb⟩; have B4 := Lib.hid (bt B3.out hb); have C4 := Lib.hid (C3.out.below hb); have k0 := C4.out.c0; have k1 := C4.out.c1; clear hb))
    | (go_at_call 11; ((with_reducible refine (HBr.out _ B4.out).mono ?_); rintro x w5 ⟨rfl, hb⟩; have B5 := Lib.hid (bt B4.out hb); have C5 := Lib.hid (C4.out.below hb); have k0 := C5.out.c0; have k1 := C5.out.c1; clear hb))
    | (go_at_call 11; ((with_reducible refine (HBd.out _ B5.out).mono ?_); rintro x w6 ⟨rfl, hb⟩; have B6 := Lib.hid (bt B5.out hb); have C6 := Lib.hid (C5.out.below hb); have k0 := C6.out.c0; have k1 := C6.out.c1; clear hb))
    | (go_at_call 14; ((with_reducible refine (HC.out _ B6.out).mono ?_); rintro x w7 ⟨rfl, hb⟩; have B7 := Lib.hid (bt B6.out hb); have C7 := Lib.hid (C6.out.below hb); have k0 := C7.out.c0; have k1 := C7.out.c1; clear hb))
    | (go_at_call 12; ((with_reducible refine (HO.out _ B7.out).mono ?_); rintro x w8 ⟨rfl, hb⟩; have B8 := Lib.hid (bt B7.out hb); have C8 := Lib.hid (C7.out.below hb); have k0 := C8.out.c0; have k1 := C8.out.c1; clear hb))
    | (go_at_call 23; ((with_reducible refine (HP1.out _ B8.out).mono ?_); rintro x w' ⟨rfl, rfl⟩))
    | (go_at_call 23; ((with_reducible refine (HP2.out _ B8.out).mono ?_); rintro x w' ⟨rfl, rfl⟩))
    | (go_at_call 12; ((with_reducible refine (HQ.out _ B8.out).mono ?_); rintro x w9 ⟨rfl, hb⟩; have B9 := Lib.hid (bt B8.out hb); clear hb)))
  go_ret
  first
    | exact ⟨rfl, B9.out⟩
    | exact ⟨ret_bool (by simp [*]), B9.out⟩

set_option maxRecDepth 100000 in
set_option maxHeartbeats 1600000 in
theorem near_4cE (we : Int) (A : Option Addr) (c : Nat) (hs : List Int) (day t y m d y2 m2 d2 : Int) (w : World) (h : CalIn w we A c hs) (hV : VarS w) (hg : ∀ w', Below w.heap.size w w' → GrtS we A c hs false w') (hr : ∀ w', Below w.heap.size w w' → RlcS we A c hs day 4 day 0 w') (hbr : ∀ w', Below w.heap.size w w' → BusS we A c hs day true 0 w') (hbd : ∀ w', Below w.heap.size w w' → BusS we A c hs day true 0 w') (hc : ∀ w', Below w.heap.size w w' → CntS we A c hs day day 0 0 w') (ho : ∀ w', Below w.heap.size w w' → RlcS we A c hs day 2 t 0 w') (hp1 : ∀ w', Below w.heap.size w w' → PtsS day y m d w') (hp2 : ∀ w', Below w.heap.size w w' → PtsS t y2 m2 d2 w') (hq : ∀ w', Below w.heap.size w w' → RlcS we A c hs day 1 day 0 w') (hy : y ≠ y2) :
    Calls Tryd.prog 6 #[.agg #[.int .u8 we, .slice A hs.length c], .int .i64 day, .int .u8 4] w fun e w' => e = .returned (.bool true) ∧ Below w.heap.size w w' := by
  have C1 := Lib.hid (CalAt.new (we := we) (c := c) h.rd)
  have B1 := Lib.hid (bel1 w (.cells #[.int .u8 we, .slice A hs.length c] 24))
  have c0 := C1.out.c0
  have c1 := C1.out.c1
  have HL : Hid (∀ w', Below w.heap.size w w' → Calls _ _ _ _ _) := fun w' hb => calive_any w' (hV.below hb)
  have HG : Hid (∀ w', Below w.heap.size w w' → Calls _ _ _ _ _) := hg
  clear hg
  have HR : Hid (∀ w', Below w.heap.size w w' → Calls _ _ _ _ _) := hr
  clear hr
  have HBr : Hid (∀ w', Below w.heap.size w w' → Calls _ _ _ _ _) := hbr
  clear hbr
  have HBd : Hid (∀ w', Below w.heap.size w w' → Calls _ _ _ _ _) := hbd
  clear hbd
  have HC : Hid (∀ w', Below w.heap.size w w' → Calls _ _ _ _ _) := hc
  clear hc
  have HO : Hid (∀ w', Below w.heap.size w w' → Calls _ _ _ _ _) := ho
  clear ho
  have HP1 : Hid (∀ w', Below w.heap.size w w' → Calls _ _ _ _ _) := hp1
  clear hp1
  have HP2 : Hid (∀ w', Below w.heap.size w w' → Calls _ _ _ _ _) := hp2
  clear hp2
  have HQ : Hid (∀ w', Below w.heap.size w w' → Calls _ _ _ _ _) := hq
  clear hq
  clear h hV
  have hy1 : (y == y2) = false := by rw [beq_eq_false_iff_ne]; exact hy
  clear hy
  go_enter Tryd.func6, Tryd.ntmps6
  go_wp2_with (first
    | (go_at_call 17; ((with_reducible refine (HL.out _ B1.out).mono ?_); rintro x w2 ⟨rfl, hb⟩; have B2 := Lib.hid (bt B1.out hb); have C2 := Lib.hid (C1.out.below hb); have k0 := C2.out.c0; have k1 := C2.out.c1; clear hb))
    | (go_at_call 19; ((with_reducible refine (HG.out _ B2.out).mono ?_); rintro x w3 ⟨rfl, hb⟩; have B3 := Lib.hid (bt B2.out hb); have C3 := Lib.hid (C2.out.below hb); have k0 := C3.out.c0; have k1 := C3.out.c1; clear hb))
    | (go_at_call 12; ((with_reducible refine (HR.out _ B3.out).mono ?_); rintro x w4 ⟨rfl, hb⟩; have B4 := Lib.hid (bt B3.out hb); have C4 := Lib.hid (C3.out.below hb); have k0 := C4.out.c0; have k1 := C4.out.c1; clear hb))
    | (go_at_call 11; ((with_reducible refine (HBr.out _ B4.out).mono ?_); rintro x w5 ⟨rfl, hb⟩; have B5 := Lib.hid (bt B4.out hb); have C5 := Lib.hid (C4.out.below hb); have k0 := C5.out.c0; have k1 := C5.out.c1; clear hb))
    | (go_at_call 11; ((with_reducible refine (HBd.out _ B5.out).mono ?_); rintro x w6 ⟨rfl, hb⟩; have B6 := Lib.hid (bt B5.out hb); have C6 := Lib.hid (C5.out.below hb); have k0 := C6.out.c0; have k1 := C6.out.c1; clear hb))
    | (go_at_call 14; ((with_reducible refine (HC.out _ B6.out).mono ?_); rintro x w7 ⟨rfl, hb⟩; have B7 := Lib.hid (bt B6.out hb); have C7 := Lib.hid (C6.out.below hb); have k0 := C7.out.c0; have k1 := C7.out.c1; clear hb))
    | (go_at_call 12; ((with_reducible refine (HO.out _ B7.out).mono ?_); rintro x w8 ⟨rfl, hb⟩; have B8 := Lib.hid (bt B7.out hb); have C8 := Lib.hid (C7.out.below hb); have k0 := C8.out.c0; have k1 := C8.out.c1; clear hb))
    | (go_at_call 23; ((with_reducible refine (HP1.out _ B8.out).mono ?_); rintro x w' ⟨rfl, rfl⟩))
    | (go_at_call 23; ((with_reducible refine (HP2.out _ B8.out).mono ?_); rintro x w' ⟨rfl, rfl⟩))
    | (go_at_call 12; ((with_reducible refine (HQ.out _ B8.out).mono ?_); rintro x w9 ⟨rfl, hb⟩; have B9 := Lib.hid (bt B8.out hb); clear hb)))
  go_ret
  first
    | exact ⟨rfl, B9.out⟩
    | exact ⟨ret_bool (by simp [*]), B9.out⟩

set_option maxRecDepth 100000 in
set_option maxHeartbeats 1600000 in
theorem near_4dE (we : Int) (A : Option Addr) (c : Nat) (hs : List Int) (day t y m d m2 d2 : Int) (w : World) (h : CalIn w we A c hs) (hV : VarS w) (hg : ∀ w', Below w.heap.size w w' → GrtS we A c hs false w') (hr : ∀ w', Below w.heap.size w w' → RlcS we A c hs day 4 day 0 w') (hbr : ∀ w', Below w.heap.size w w' → BusS we A c hs day true 0 w') (hbd : ∀ w', Below w.heap.size w w' → BusS we A c hs day true 0 w') (hc : ∀ w', Below w.heap.size w w' → CntS we A c hs day day 0 0 w') (ho : ∀ w', Below w.heap.size w w' → RlcS we A c hs day 2 t 0 w') (hp1 : ∀ w', Below w.heap.size w w' → PtsS day y m d w') (hp2 : ∀ w', Below w.heap.size w w' → PtsS t y m2 d2 w') (hq : ∀ w', Below w.heap.size w w' → RlcS we A c hs day 1 day 0 w') (hm : m ≠ m2) :
    Calls Tryd.prog 6 #[.agg #[.int .u8 we, .slice A hs.length c], .int .i64 day, .int .u8 4] w fun e w' => e = .returned (.bool true) ∧ Below w.heap.size w w' := by
  have C1 := Lib.hid (CalAt.new (we := we) (c := c) h.rd)
  have B1 := Lib.hid (bel1 w (.cells #[.int .u8 we, .slice A hs.length c] 24))
  have c0 := C1.out.c0
  have c1 := C1.out.c1
  have HL : Hid (∀ w', Below w.heap.size w w' → Calls _ _ _ _ _) := fun w' hb => calive_any w' (hV.below hb)
  have HG : Hid (∀ w', Below w.heap.size w w' → Calls _ _ _ _ _) := hg
  clear hg
  have HR : Hid (∀ w', Below w.heap.size w w' → Calls _ _ _ _ _) := hr
  clear hr
  have HBr : Hid (∀ w', Below w.heap.size w w' → Calls _ _ _ _ _) := hbr
  clear hbr
  have HBd : Hid (∀ w', Below w.heap.size w w' → Calls _ _ _ _ _) := hbd
  clear hbd
  have HC : Hid (∀ w', Below w.heap.size w w' → Calls _ _ _ _ _) := hc
  clear hc
  have HO : Hid (∀ w', Below w.heap.size w w' → Calls _ _ _ _ _) := ho
  clear ho
  have HP1 : Hid (∀ w', Below w.heap.size w w' → Calls _ _ _ _ _) := hp1
  clear hp1
  have HP2 : Hid (∀ w', Below w.heap.size w w' → Calls _ _ _ _ _) := hp2
  clear hp2
  have HQ : Hid (∀ w', Below w.heap.size w w' → Calls _ _ _ _ _) := hq
  clear hq
  clear h hV
  have hy1 : (m == m2) = false := by rw [beq_eq_false_iff_ne]; exact hm
  clear hm
  go_enter Tryd.func6, Tryd.ntmps6
  go_wp2_with (first
    | (go_at_call 17; ((with_reducible refine (HL.out _ B1.out).mono ?_); rintro x w2 ⟨rfl, hb⟩; have B2 := Lib.hid (bt B1.out hb); have C2 := Lib.hid (C1.out.below hb); have k0 := C2.out.c0; have k1 := C2.out.c1; clear hb))
    | (go_at_call 19; ((with_reducible refine (HG.out _ B2.out).mono ?_); rintro x w3 ⟨rfl, hb⟩; have B3 := Lib.hid (bt B2.out hb); have C3 := Lib.hid (C2.out.below hb); have k0 := C3.out.c0; have k1 := C3.out.c1; clear hb))
    | (go_at_call 12; ((with_reducible refine (HR.out _ B3.out).mono ?_); rintro x w4 ⟨rfl, hb⟩; have B4 := Lib.hid (bt B3.out hb); have C4 := Lib.hid (C3.out.below hb); have k0 := C4.out.c0; have k1 := C4.out.c1; clear hb))
    | (go_at_call 11; ((with_reducible refine (HBr.out _ B4.out).mono ?_); rintro x w5 ⟨rfl, hb⟩; have B5 := Lib.hid (bt B4.out hb); have C5 := Lib.hid (C4.out.below hb); have k0 := C5.out.c0; have k1 := C5.out.c1; clear hb))
    | (go_at_call 11; ((with_reducible refine (HBd.out _ B5.out).mono ?_); rintro x w6 ⟨rfl, hb⟩; have B6 := Lib.hid (bt B5.out hb); have C6 := Lib.hid (C5.out.below hb); have k0 := C6.out.c0; have k1 := C6.out.c1; clear hb))
    | (go_at_call 14; ((with_reducible refine (HC.out _ B6.out).mono ?_); rintro x w7 ⟨rfl, hb⟩; have B7 := Lib.hid (bt B6.out hb); have C7 := Lib.hid (C6.out.below hb); have k0 := C7.out.c0; have k1 := C7.out.c1; clear hb))
    | (go_at_call 12; ((with_reducible refine (HO.out _ B7.out).mono ?_); rintro x w8 ⟨rfl, hb⟩; have B8 := Lib.hid (bt B7.out hb); have C8 := Lib.hid (C7.out.below hb); have k0 := C8.out.c0; have k1 := C8.out.c1; clear hb))
    | (go_at_call 23; ((with_reducible refine (HP1.out _ B8.out).mono ?_); rintro x w' ⟨rfl, rfl⟩))
    | (go_at_call 23; ((with_reducible refine (HP2.out _ B8.out).mono ?_); rintro x w' ⟨rfl, rfl⟩))
    | (go_at_call 12; ((with_reducible refine (HQ.out _ B8.out).mono ?_); rintro x w9 ⟨rfl, hb⟩; have B9 := Lib.hid (bt B8.out hb); clear hb)))
  go_ret
  first
    | exact ⟨rfl, B9.out⟩
    | exact ⟨ret_bool (by simp [*]), B9.out⟩

set_option maxRecDepth 100000 in
set_option maxHeartbeats 1600000 in
theorem near_4aL (we : Int) (A : Option Addr) (c : Nat) (hs : List Int) (day r y m d d2 : Int) (w : World) (h : CalIn w we A c hs) (hV : VarS w) (hg : ∀ w', Below w.heap.size w w' → GrtS we A c hs false w') (hr : ∀ w', Below w.heap.size w w' → RlcS we A c hs day 4 r 0 w') (hbr : ∀ w', Below w.heap.size w w' → BusS we A c hs r true 0 w') (hbd : ∀ w', Below w.heap.size w w' → BusS we A c hs day false 0 w') (hc : ∀ w', Below w.heap.size w w' → CntS we A c hs (r + 1) day 0 0 w') (hrd : r < day) (d1 : day ≤ 99999) (hr0 : 0 ≤ r) (ho : ∀ w', Below w.heap.size w w' → RlcS we A c hs day 2 r 0 w') (hp1 : ∀ w', Below w.heap.size w w' → PtsS day y m d w') (hp2 : ∀ w', Below w.heap.size w w' → PtsS r y m d2 w') :
    Calls Tryd.prog 6 #[.agg #[.int .u8 we, .slice A hs.length c], .int .i64 day, .int .u8 4] w fun e w' => e = .returned (.bool true) ∧ Below w.heap.size w w' := by
  have C1 := Lib.hid (CalAt.new (we := we) (c := c) h.rd)
  have B1 := Lib.hid (bel1 w (.cells #[.int .u8 we, .slice A hs.length c] 24))
  have c0 := C1.out.c0
  have c1 := C1.out.c1
  have HL : Hid (∀ w', Below w.heap.size w w' → Calls _ _ _ _ _) := fun w' hb => calive_any w' (hV.below hb)
  have HG : Hid (∀ w', Below w.heap.size w w' → Calls _ _ _ _ _) := hg
  clear hg
  have HR : Hid (∀ w', Below w.heap.size w w' → Calls _ _ _ _ _) := hr
  clear hr
  have HBr : Hid (∀ w', Below w.heap.size w w' → Calls _ _ _ _ _) := hbr
  clear hbr
  have HBd : Hid (∀ w', Below w.heap.size w w' → Calls _ _ _ _ _) := hbd
  clear hbd
  have HC : Hid (∀ w', Below w.heap.size w w' → Calls _ _ _ _ _) := hc
  clear hc
  have HO : Hid (∀ w', Below w.heap.size w w' → Calls _ _ _ _ _) := ho
  clear ho
  have HP1 : Hid (∀ w', Below w.heap.size w w' → Calls _ _ _ _ _) := hp1
  clear hp1
  have HP2 : Hid (∀ w', Below w.heap.size w w' → Calls _ _ _ _ _) := hp2
  clear hp2
  clear h hV
  have hne : (r != day) = true := by rw [bne_iff_ne]; omega
  have hne1 : (r == day) = false := by rw [beq_eq_false_iff_ne]; omega
  have hle : decide (day ≤ r) = false := decide_eq_false (by omega)
  have hle2 : ¬ day ≤ r := by omega
  have hrn : -1 ≤ r := by have := hr0; omega
  clear hr0
  go_enter Tryd.func6, Tryd.ntmps6
  go_wp2_with (first
    | (go_at_call 17; ((with_reducible refine (HL.out _ B1.out).mono ?_); rintro x w2 ⟨rfl, hb⟩; have B2 := Lib.hid (bt B1.out hb); have C2 := Lib.hid (C1.out.below hb); have k0 := C2.out.c0; have k1 := C2.out.c1; clear hb))
    | (go_at_call 19; ((with_reducible refine (HG.out _ B2.out).mono ?_); rintro x w3 ⟨rfl, hb⟩; have B3 := Lib.hid (bt B2.out hb); have C3 := Lib.hid (C2.out.below hb); have k0 := C3.out.c0; have k1 := C3.out.c1; clear hb))
    | (go_at_call 12; ((with_reducible refine (HR.out _ B3.out).mono ?_); rintro x w4 ⟨rfl, hb⟩; have B4 := Lib.hid (bt B3.out hb); have C4 := Lib.hid (C3.out.below hb); have k0 := C4.out.c0; have k1 := C4.out.c1; clear hb))
    | (go_at_call 11; ((with_reducible refine (HBr.out _ B4.out).mono ?_); rintro x w5 ⟨rfl, hb⟩; have B5 := Lib.hid (bt B4.out hb); have C5 := Lib.hid (C4.out.below hb); have k0 := C5.out.c0; have k1 := C5.out.c1; clear hb))
    | (go_at_call 11; ((with_reducible refine (HBd.out _ B5.out).mono ?_); rintro x w6 ⟨rfl, hb⟩; have B6 := Lib.hid (bt B5.out hb); have C6 := Lib.hid (C5.out.below hb); have k0 := C6.out.c0; have k1 := C6.out.c1; clear hb))
    | (go_at_call 14; ((with_reducible refine (HC.out _ B6.out).mono ?_); rintro x w7 ⟨rfl, hb⟩; have B7 := Lib.hid (bt B6.out hb); have C7 := Lib.hid (C6.out.below hb); have k0 := C7.out.c0; have k1 := C7.out.c1; clear hb))
    | (go_at_call 12; ((with_reducible refine (HO.out _ B7.out).mono ?_); rintro x w8 ⟨rfl, hb⟩; have B8 := Lib.hid (bt B7.out hb); clear hb))
    | (go_at_call 23; ((with_reducible refine (HP1.out _ B8.out).mono ?_); rintro x w' ⟨rfl, rfl⟩))
    | (go_at_call 23; ((with_reducible refine (HP2.out _ B8.out).mono ?_); rintro x w' ⟨rfl, rfl⟩)))
  go_ret
  first
    | exact ⟨rfl, B8.out⟩
    | exact ⟨ret_bool (by simp [*]), B8.out⟩

set_option maxRecDepth 100000 in
set_option maxHeartbeats 1600000 in
theorem near_4bL (we : Int) (A : Option Addr) (c : Nat) (hs : List Int) (day r y m d y2 m2 d2 e : Int) (w : World) (h : CalIn w we A c hs) (hV : VarS w) (hg : ∀ w', Below w.heap.size w w' → GrtS we A c hs false w') (hr : ∀ w', Below w.heap.size w w' → RlcS we A c hs day 4 r 0 w') (hbr : ∀ w', Below w.heap.size w w' → BusS we A c hs r true 0 w') (hbd : ∀ w', Below w.heap.size w w' → BusS we A c hs day false 0 w') (hc : ∀ w', Below w.heap.size w w' → CntS we A c hs (r + 1) day 0 0 w') (hrd : r < day) (d1 : day ≤ 99999) (hr0 : 0 ≤ r) (ho : ∀ w', Below w.heap.size w w' → RlcS we A c hs day 2 0 e w') (hp1 : ∀ w', Below w.heap.size w w' → PtsS day y m d w') (hp2 : ∀ w', Below w.heap.size w w' → PtsS 0 y2 m2 d2 w') (hq : ∀ w', Below w.heap.size w w' → RlcS we A c hs day 1 r 0 w') (he : e ≠ 0) :
    Calls Tryd.prog 6 #[.agg #[.int .u8 we, .slice A hs.length c], .int .i64 day, .int .u8 4] w fun e w' => e = .returned (.bool true) ∧ Below w.heap.size w w' := by
  have C1 := Lib.hid (CalAt.new (we := we) (c := c) h.rd)
  have B1 := Lib.hid (bel1 w (.cells #[.int .u8 we, .slice A hs.length c] 24))
  have c0 := C1.out.c0
  have c1 := C1.out.c1
  have HL : Hid (∀ w', Below w.heap.size w w' → Calls _ _ _ _ _) := fun w' hb => calive_any w' (hV.below hb)
  have HG : Hid (∀ w', Below w.heap.size w w' → Calls _ _ _ _ _) := hg
  clear hg
  have HR : Hid (∀ w', Below w.heap.size w w' → Calls _ _ _ _ _) := hr
  clear hr
  have HBr : Hid (∀ w', Below w.heap.size w w' → Calls _ _ _ _ _) := hbr
  clear hbr
  have HBd : Hid (∀ w', Below w.heap.size w w' → Calls _ _ _ _ _) := hbd
  clear hbd
  have HC : Hid (∀ w', Below w.heap.size w w' → Calls _ _ _ _ _) := hc
  clear hc
  have HO : Hid (∀ w', Below w.heap.size w w' → Calls _ _ _ _ _) := ho
  clear ho
  have HP1 : Hid (∀ w', Below w.heap.size w w' → Calls _ _ _ _ _) := hp1
  clear hp1
  have HP2 : Hid (∀ w', Below w.heap.size w w' → Calls _ _ _ _ _) := hp2
  clear hp2
  have HQ : Hid (∀ w', Below w.heap.size w w' → Calls _ _ _ _ _) := hq
  clear hq
  clear h hV
  have hne : (r != day) = true := by rw [bne_iff_ne]; omega
  have hne1 : (r == day) = false := by rw [beq_eq_false_iff_ne]; omega
  have hle : decide (day ≤ r) = false := decide_eq_false (by omega)
  have hle2 : ¬ day ≤ r := by omega
  have hrn : -1 ≤ r := by have := hr0; omega
  clear hr0
  have he1 : (e == 0) = false := by rw [beq_eq_false_iff_ne]; exact he
  clear he
  go_enter Tryd.func6, Tryd.ntmps6
  go_wp2_with (first
    | (go_at_call 17; ((with_reducible refine (HL.out _ B1.out).mono ?_); rintro x w2 ⟨rfl, hb⟩; have B2 := Lib.hid (bt B1.out hb); have C2 := Lib.hid (C1.out.below hb); have k0 := C2.out.c0; have k1 := C2.out.c1; clear hb))
    | (go_at_call 19; ((with_reducible refine (HG.out _ B2.out).mono ?_); rintro x w3 ⟨rfl, hb⟩; have B3 := Lib.hid (bt B2.out hb); have C3 := Lib.hid (C2.out.below hb); have k0 := C3.out.c0; have k1 := C3.out.c1; clear hb))
    | (go_at_call 12; ((with_reducible refine (HR.out _ B3.out).mono ?_); rintro x w4 ⟨rfl, hb⟩; have B4 := Lib.hid (bt B3.out hb); have C4 := Lib.hid (C3.out.below hb); have k0 := C4.out.c0; have k1 := C4.out.c1; clear hb))
    | (go_at_call 11; ((with_reducible refine (HBr.out _ B4.out).mono ?_); rintro x w5 ⟨rfl, hb⟩; have B5 := Lib.hid (bt B4.out hb); have C5 := Lib.hid (C4.out.below hb); have k0 := C5.out.c0; have k1 := C5.out.c1; clear hb))
    | (go_at_call 11; ((with_reducible refine (HBd.out _ B5.out).mono ?_); rintro x w6 ⟨rfl, hb⟩; have B6 := Lib.hid (bt B5.out hb); have C6 := Lib.hid (C5.out.below hb); have k0 := C6.out.c0; have k1 := C6.out.c1; clear hb))
    | (go_at_call 14; ((with_reducible refine (HC.out _ B6.out).mono ?_); rintro x w7 ⟨rfl, hb⟩; have B7 := Lib.hid (bt B6.out hb); have C7 := Lib.hid (C6.out.below hb); have k0 := C7.out.c0; have k1 := C7.out.c1; clear hb))
    | (go_at_call 12; ((with_reducible refine (HO.out _ B7.out).mono ?_); rintro x w8 ⟨rfl, hb⟩; have B8 := Lib.hid (bt B7.out hb); have C8 := Lib.hid (C7.out.below hb); have k0 := C8.out.c0; have k1 := C8.out.c1; clear hb))
    | (go_at_call 23; ((with_reducible refine (HP1.out _ B8.out).mono ?_); rintro x w' ⟨rfl, rfl⟩))
    | (go_at_call 23; ((with_reducible refine (HP2.out _ B8.out).mono ?_); rintro x w' ⟨rfl, rfl⟩))
    | (go_at_call 12; ((with_reducible refine (HQ.out _ B8.out).mono ?_); rintro x w9 ⟨rfl, hb⟩; have B9 := Lib.hid (bt B8.out hb); clear hb)))
  go_ret
  first
    | exact ⟨rfl, B9.out⟩
    | exact ⟨ret_bool (by simp [*]), B9.out⟩

set_option maxRecDepth 100000 in
set_option maxHeartbeats 1600000 in
theorem near_4cL (we : Int) (A : Option Addr) (c : Nat) (hs : List Int) (day r t y m d y2 m2 d2 : Int) (w : World) (h : CalIn w we A c hs) (hV : VarS w) (hg : ∀ w', Below w.heap.size w w' → GrtS we A c hs false w') (hr : ∀ w', Below w.heap.size w w' → RlcS we A c hs day 4 r 0 w') (hbr : ∀ w', Below w.heap.size w w' → BusS we A c hs r true 0 w') (hbd : ∀ w', Below w.heap.size w w' → BusS we A c hs day false 0 w') (hc : ∀ w', Below w.heap.size w w' → CntS we A c hs (r + 1) day 0 0 w') (hrd : r < day) (d1 : day ≤ 99999) (hr0 : 0 ≤ r) (ho : ∀ w', Below w.heap.size w w' → RlcS we A c hs day 2 t 0 w') (hp1 : ∀ w', Below w.heap.size w w' → PtsS day y m d w') (hp2 : ∀ w', Below w.heap.size w w' → PtsS t y2 m2 d2 w') (hq : ∀ w', Below w.heap.size w w' → RlcS we A c hs day 1 r 0 w') (hy : y ≠ y2) :
    Calls Tryd.prog 6 #[.agg #[.int .u8 we, .slice A hs.length c], .int .i64 day, .int .u8 4] w fun e w' => e = .returned (.bool true) ∧ Below w.heap.size w w' := by
  have C1 := Lib.hid (CalAt.new (we := we) (c := c) h.rd)
  have B1 := Lib.hid (bel1 w (.cells #[.int .u8 we, .slice A hs.length c] 24))
  have c0 := C1.out.c0
  have c1 := C1.out.c1
  have HL : Hid (∀ w', Below w.heap.size w w' → Calls _ _ _ _ _) := fun w' hb => calive_any w' (hV.below hb)
  have HG : Hid (∀ w', Below w.heap.size w w' → Calls _ _ _ _ _) := hg
  clear hg
  have HR : Hid (∀ w', Below w.heap.size w w' → Calls _ _ _ _ _) := hr
  clear hr
  have HBr : Hid (∀ w', Below w.heap.size w w' → Calls _ _ _ _ _) := hbr
  clear hbr
  have HBd : Hid (∀ w', Below w.heap.size w w' → Calls _ _ _ _ _) := hbd
  clear hbd
  have HC : Hid (∀ w', Below w.heap.size w w' → Calls _ _ _ _ _) := hc
  clear hc
  have HO : Hid (∀ w', Below w.heap.size w w' → Calls _ _ _ _ _) := ho
  clear ho
  have HP1 : Hid (∀ w', Below w.heap.size w w' → Calls _ _ _ _ _) := hp1
  clear hp1
  have HP2 : Hid (∀ w', Below w.heap.size w w' → Calls _ _ _ _ _) := hp2
  clear hp2
  have HQ : Hid (∀ w', Below w.heap.size w w' → Calls _ _ _ _ _) := hq
  clear hq
  clear h hV
  have hne : (r != day) = true := by rw [bne_iff_ne]; omega
  have hne1 : (r == day) = false := by rw [beq_eq_false_iff_ne]; omega
  have hle : decide (day ≤ r) = false := decide_eq_false (by omega)
  have hle2 : ¬ day ≤ r := by omega
  have hrn : -1 ≤ r := by have := hr0; omega
  clear hr0
  have hy1 : (y == y2) = false := by rw [beq_eq_false_iff_ne]; exact hy
  clear hy
  go_enter Tryd.func6, Tryd.ntmps6
  go_wp2_with (first
    | (go_at_call 17; ((with_reducible refine (HL.out _ B1.out).mono ?_); rintro x w2 ⟨rfl, hb⟩; have B2 := Lib.hid (bt B1.out hb); have C2 := Lib.hid (C1.out.below hb); have k0 := C2.out.c0; have k1 := C2.out.c1; clear hb))
    | (go_at_call 19; ((with_reducible refine (HG.out _ B2.out).mono ?_); rintro x w3 ⟨rfl, hb⟩; have B3 := Lib.hid (bt B2.out hb); have C3 := Lib.hid (C2.out.below hb); have k0 := C3.out.c0; have k1 := C3.out.c1; clear hb))
    | (go_at_call 12; ((with_reducible refine (HR.out _ B3.out).mono ?_); rintro x w4 ⟨rfl, hb⟩; have B4 := Lib.hid (bt B3.out hb); have C4 := Lib.hid (C3.out.below hb); have k0 := C4.out.c0; have k1 := C4.out.c1; clear hb))
    | (go_at_call 11; ((with_reducible refine (HBr.out _ B4.out).mono ?_); rintro x w5 ⟨rfl, hb⟩; have B5 := Lib.hid (bt B4.out hb); have C5 := Lib.hid (C4.out.below hb); have k0 := C5.out.c0; have k1 := C5.out.c1; clear hb))
    | (go_at_call 11; ((with_reducible refine (HBd.out _ B5.out).mono ?_); rintro x w6 ⟨rfl, hb⟩; have B6 := Lib.hid (bt B5.out hb); have C6 := Lib.hid (C5.out.below hb); have k0 := C6.out.c0; have k1 := C6.out.c1; clear hb))
    | (go_at_call 14; ((with_reducible refine (HC.out _ B6.out).mono ?_); rintro x w7 ⟨rfl, hb⟩; have B7 := Lib.hid (bt B6.out hb); have C7 := Lib.hid (C6.out.below hb); have k0 := C7.out.c0; have k1 := C7.out.c1; clear hb))
    | (go_at_call 12; ((with_reducible refine (HO.out _ B7.out).mono ?_); rintro x w8 ⟨rfl, hb⟩; have B8 := Lib.hid (bt B7.out hb); have C8 := Lib.hid (C7.out.below hb); have k0 := C8.out.c0; have k1 := C8.out.c1; clear hb))
    | (go_at_call 23; ((with_reducible refine (HP1.out _ B8.out).mono ?_); rintro x w' ⟨rfl, rfl⟩))
    | (go_at_call 23; ((with_reducible refine (HP2.out _ B8.out).mono ?_); rintro x w' ⟨rfl, rfl⟩))
    | (go_at_call 12; ((with_reducible refine (HQ.out _ B8.out).mono ?_); rintro x w9 ⟨rfl, hb⟩; have B9 := Lib.hid (bt B8.out hb); clear hb)))
  go_ret
  first
    | exact ⟨rfl, B9.out⟩
    | exact ⟨ret_bool (by simp [*]), B9.out⟩

set_option maxRecDepth 100000 in
set_option maxHeartbeats 1600000 in
theorem near_4dL (we : Int) (A : Option Addr) (c : Nat) (hs : List Int) (day r t y m d m2 d2 : Int) (w : World) (h : CalIn w we A c hs) (hV : VarS w) (hg : ∀ w', Below w.heap.size w w' → GrtS we A c hs false w') (hr : ∀ w', Below w.heap.size w w' → RlcS we A c hs day 4 r 0 w') (hbr : ∀ w', Below w.heap.size w w' → BusS we A c hs r true 0 w') (hbd : ∀ w', Below w.heap.size w w' → BusS we A c hs day false 0 w') (hc : ∀ w', Below w.heap.size w w' → CntS we A c hs (r + 1) day 0 0 w') (hrd : r < day) (d1 : day ≤ 99999) (hr0 : 0 ≤ r) (ho : ∀ w', Below w.heap.size w w' → RlcS we A c hs day 2 t 0 w') (hp1 : ∀ w', Below w.heap.size w w' → PtsS day y m d w') (hp2 : ∀ w', Below w.heap.size w w' → PtsS t y m2 d2 w') (hq : ∀ w', Below w.heap.size w w' → RlcS we A c hs day 1 r 0 w') (hm : m ≠ m2) :
    Calls Tryd.prog 6 #[.agg #[.int .u8 we, .slice A hs.length c], .int .i64 day, .int .u8 4] w fun e w' => e = .returned (.bool true) ∧ Below w.heap.size w w' := by
  have C1 := Lib.hid (CalAt.new (we := we) (c := c) h.rd)
  have B1 := Lib.hid (bel1 w (.cells #[.int .u8 we, .slice A hs.length c] 24))
  have c0 := C1.out.c0
  have c1 := C1.out.c1
  have HL : Hid (∀ w', Below w.heap.size w w' → Calls _ _ _ _ _) := fun w' hb => calive_any w' (hV.below hb)
  have HG : Hid (∀ w', Below w.heap.size w w' → Calls _ _ _ _ _) := hg
  clear hg
  have HR : Hid (∀ w', Below w.heap.size w w' → Calls _ _ _ _ _) := hr
  clear hr
  have HBr : Hid (∀ w', Below w.heap.size w w' → Calls _ _ _ _ _) := hbr
  clear hbr
  have HBd : Hid (∀ w', Below w.heap.size w w' → Calls _ _ _ _ _) := hbd
  clear hbd
  have HC : Hid (∀ w', Below w.heap.size w w' → Calls _ _ _ _ _) := hc
  clear hc
  have HO : Hid (∀ w', Below w.heap.size w w' → Calls _ _ _ _ _) := ho
  clear ho
  have HP1 : Hid (∀ w', Below w.heap.size w w' → Calls _ _ _ _ _) := hp1
  clear hp1
  have HP2 : Hid (∀ w', Below w.heap.size w w' → Calls _ _ _ _ _) := hp2
  clear hp2
  have HQ : Hid (∀ w', Below w.heap.size w w' → Calls _ _ _ _ _) := hq
  clear hq
  clear h hV
  have hne : (r != day) = true := by rw [bne_iff_ne]; omega
  have hne1 : (r == day) = false := by rw [beq_eq_false_iff_ne]; omega
  have hle : decide (day ≤ r) = false := decide_eq_false (by omega)
  have hle2 : ¬ day ≤ r := by omega
  have hrn : -1 ≤ r := by have := hr0; omega
  clear hr0
  have hy1 : (m == m2) = false := by rw [beq_eq_false_iff_ne]; exact hm
  clear hm
  go_enter Tryd.func6, Tryd.ntmps6
  go_wp2_with (first
    | (go_at_call 17; ((with_reducible refine (HL.out _ B1.out).mono ?_); rintro x w2 ⟨rfl, hb⟩; have B2 := Lib.hid (bt B1.out hb); have C2 := Lib.hid (C1.out.below hb); have k0 := C2.out.c0; have k1 := C2.out.c1; clear hb))
    | (go_at_call 19; ((with_reducible refine (HG.out _ B2.out).mono ?_); rintro x w3 ⟨rfl, hb⟩; have B3 := Lib.hid (bt B2.out hb); have C3 := Lib.hid (C2.out.below hb); have k0 := C3.out.c0; have k1 := C3.out.c1; clear hb))
    | (go_at_call 12; ((with_reducible refine (HR.out _ B3.out).mono ?_); rintro x w4 ⟨rfl, hb⟩; have B4 := Lib.hid (bt B3.out hb); have C4 := Lib.hid (C3.out.below hb); have k0 := C4.out.c0; have k1 := C4.out.c1; clear hb))
    | (go_at_call 11; ((with_reducible refine (HBr.out _ B4.out).mono ?_); rintro x w5 ⟨rfl, hb⟩; have B5 := Lib.hid (bt B4.out hb); have C5 := Lib.hid (C4.out.below hb); have k0 := C5.out.c0; have k1 := C5.out.c1; clear hb))
    | (go_at_call 11; ((with_reducible refine (HBd.out _ B5.out).mono ?_); rintro x w6 ⟨rfl, hb⟩; have B6 := Lib.hid (bt B5.out hb); have C6 := Lib.hid (C5.out.below hb); have k0 := C6.out.c0; have k1 := C6.out.c1; clear hb))
    | (go_at_call 14; ((with_reducible refine (HC.out _ B6.out).mono ?_); rintro x w7 ⟨rfl, hb⟩; have B7 := Lib.hid (bt B6.out hb); have C7 := Lib.hid (C6.out.below hb); have k0 := C7.out.c0; have k1 := C7.out.c1; clear hb))
    | (go_at_call 12; ((with_reducible refine (HO.out _ B7.out).mono ?_); rintro x w8 ⟨rfl, hb⟩; have B8 := Lib.hid (bt B7.out hb); have C8 := Lib.hid (C7.out.below hb); have k0 := C8.out.c0; have k1 := C8.out.c1; clear hb))
    | (go_at_call 23; ((with_reducible refine (HP1.out _ B8.out).mono ?_); rintro x w' ⟨rfl, rfl⟩))
    | (go_at_call 23; ((with_reducible refine (HP2.out _ B8.out).mono ?_); rintro x w' ⟨rfl, rfl⟩))
    | (go_at_call 12; ((with_reducible refine (HQ.out _ B8.out).mono ?_); rintro x w9 ⟨rfl, hb⟩; have B9 := Lib.hid (bt B8.out hb); clear hb)))
  go_ret
  first
    | exact ⟨rfl, B9.out⟩
    | exact ⟨ret_bool (by simp [*]), B9.out⟩

set_option maxRecDepth 100000 in
set_option maxHeartbeats 1600000 in
theorem near_4aG (we : Int) (A : Option Addr) (c : Nat) (hs : List Int) (day r y m d d2 : Int) (w : World) (h : CalIn w we A c hs) (hV : VarS w) (hg : ∀ w', Below w.heap.size w w' → GrtS we A c hs false w') (hr : ∀ w', Below w.heap.size w w' → RlcS we A c hs day 4 r 0 w') (hbr : ∀ w', Below w.heap.size w w' → BusS we A c hs r true 0 w') (hbd : ∀ w', Below w.heap.size w w' → BusS we A c hs day false 0 w') (hc : ∀ w', Below w.heap.size w w' → CntS we A c hs day r 0 0 w') (hrd : day < r) (ho : ∀ w', Below w.heap.size w w' → RlcS we A c hs day 2 r 0 w') (hp1 : ∀ w', Below w.heap.size w w' → PtsS day y m d w') (hp2 : ∀ w', Below w.heap.size w w' → PtsS r y m d2 w') :
    Calls Tryd.prog 6 #[.agg #[.int .u8 we, .slice A hs.length c], .int .i64 day, .int .u8 4] w fun e w' => e = .returned (.bool true) ∧ Below w.heap.size w w' := by
  have C1 := Lib.hid (CalAt.new (we := we) (c := c) h.rd)
  have B1 := Lib.hid (bel1 w (.cells #[.int .u8 we, .slice A hs.length c] 24))
  have c0 := C1.out.c0
  have c1 := C1.out.c1
  have HL : Hid (∀ w', Below w.heap.size w w' → Calls _ _ _ _ _) := fun w' hb => calive_any w' (hV.below hb)
  have HG : Hid (∀ w', Below w.heap.size w w' → Calls _ _ _ _ _) := hg
  clear hg
  have HR : Hid (∀ w', Below w.heap.size w w' → Calls _ _ _ _ _) := hr
  clear hr
  have HBr : Hid (∀ w', Below w.heap.size w w' → Calls _ _ _ _ _) := hbr
  clear hbr
  have HBd : Hid (∀ w', Below w.heap.size w w' → Calls _ _ _ _ _) := hbd
  clear hbd
  have HC : Hid (∀ w', Below w.heap.size w w' → Calls _ _ _ _ _) := hc
  clear hc
  have HO : Hid (∀ w', Below w.heap.size w w' → Calls _ _ _ _ _) := ho
  clear ho
  have HP1 : Hid (∀ w', Below w.heap.size w w' → Calls _ _ _ _ _) := hp1
  clear hp1
  have HP2 : Hid (∀ w', Below w.heap.size w w' → Calls _ _ _ _ _) := hp2
  clear hp2
  clear h hV
  have hne : (r != day) = true := by rw [bne_iff_ne]; omega
  have hne1 : (r == day) = false := by rw [beq_eq_false_iff_ne]; omega
  go_enter Tryd.func6, Tryd.ntmps6
  go_wp2_with (first
    | (go_at_call 17; ((with_reducible refine (HL.out _ B1.out).mono ?_); rintro x w2 ⟨rfl, hb⟩; have B2 := Lib.hid (bt B1.out hb); have C2 := Lib.hid (C1.out.below hb); have k0 := C2.out.c0; have k1 := C2.out.c1; clear hb))
    | (go_at_call 19; ((with_reducible refine (HG.out _ B2.out).mono ?_); rintro x w3 ⟨rfl, hb⟩; have B3 := Lib.hid (bt B2.out hb); have C3 := Lib.hid (C2.out.below hb); have k0 := C3.out.c0; have k1 := C3.out.c1; clear hb))
    | (go_at_call 12; ((with_reducible refine (HR.out _ B3.out).mono ?_); rintro x w4 ⟨rfl, hb⟩; have B4 := Lib.hid (bt B3.out hb); have C4 := Lib.hid (C3.out.below hb); have k0 := C4.out.c0; have k1 := C4.out.c1; clear hb))
    | (go_at_call 11; ((with_reducible refine (HBr.out _ B4.out).mono ?_); rintro x w5 ⟨rfl, hb⟩; have B5 := Lib.hid (bt B4.out hb); have C5 := Lib.hid (C4.out.below hb); have k0 := C5.out.c0; have k1 := C5.out.c1; clear hb))
    | (go_at_call 11; ((with_reducible refine (HBd.out _ B5.out).mono ?_); rintro x w6 ⟨rfl, hb⟩; have B6 := Lib.hid (bt B5.out hb); have C6 := Lib.hid (C5.out.below hb); have k0 := C6.out.c0; have k1 := C6.out.c1; clear hb))
    | (go_at_call 14; ((with_reducible refine (HC.out _ B6.out).mono ?_); rintro x w7 ⟨rfl, hb⟩; have B7 := Lib.hid (bt B6.out hb); have C7 := Lib.hid (C6.out.below hb); have k0 := C7.out.c0; have k1 := C7.out.c1; clear hb))
    | (go_at_call 12; ((with_reducible refine (HO.out _ B7.out).mono ?_); rintro x w8 ⟨rfl, hb⟩; have B8 := Lib.hid (bt B7.out hb); clear hb))
    | (go_at_call 23; ((with_reducible refine (HP1.out _ B8.out).mono ?_); rintro x w' ⟨rfl, rfl⟩))
    | (go_at_call 23; ((with_reducible refine (HP2.out _ B8.out).mono ?_); rintro x w' ⟨rfl, rfl⟩)))
  go_ret
  first
    | exact ⟨rfl, B8.out⟩
    | exact ⟨ret_bool (by simp [*]), B8.out⟩

set_option maxRecDepth 100000 in
set_option maxHeartbeats 1600000 in
theorem near_4bG (we : Int) (A : Option Addr) (c : Nat) (hs : List Int) (day r y m d y2 m2 d2 e : Int) (w : World) (h : CalIn w we A c hs) (hV : VarS w) (hg : ∀ w', Below w.heap.size w w' → GrtS we A c hs false w') (hr : ∀ w', Below w.heap.size w w' → RlcS we A c hs day 4 r 0 w') (hbr : ∀ w', Below w.heap.size w w' → BusS we A c hs r true 0 w') (hbd : ∀ w', Below w.heap.size w w' → BusS we A c hs day false 0 w') (hc : ∀ w', Below w.heap.size w w' → CntS we A c hs day r 0 0 w') (hrd : day < r) (ho : ∀ w', Below w.heap.size w w' → RlcS we A c hs day 2 0 e w') (hp1 : ∀ w', Below w.heap.size w w' → PtsS day y m d w') (hp2 : ∀ w', Below w.heap.size w w' → PtsS 0 y2 m2 d2 w') (hq : ∀ w', Below w.heap.size w w' → RlcS we A c hs day 1 r 0 w') (he : e ≠ 0) :
    Calls Tryd.prog 6 #[.agg #[.int .u8 we, .slice A hs.length c], .int .i64 day, .int .u8 4] w fun e w' => e = .returned (.bool true) ∧ Below w.heap.size w w' := by
  have C1 := Lib.hid (CalAt.new (we := we) (c := c) h.rd)
  have B1 := Lib.hid (bel1 w (.cells #[.int .u8 we, .slice A hs.length c] 24))
  have c0 := C1.out.c0
  have c1 := C1.out.c1
  have HL : Hid (∀ w', Below w.heap.size w w' → Calls _ _ _ _ _) := fun w' hb => calive_any w' (hV.below hb)
  have HG : Hid (∀ w', Below w.heap.size w w' → Calls _ _ _ _ _) := hg
  clear hg
  have HR : Hid (∀ w', Below w.heap.size w w' → Calls _ _ _ _ _) := hr
  clear hr
  have HBr : Hid (∀ w', Below w.heap.size w w' → Calls _ _ _ _ _) := hbr
  clear hbr
  have HBd : Hid (∀ w', Below w.heap.size w w' → Calls _ _ _ _ _) := hbd
  clear hbd
  have HC : Hid (∀ w', Below w.heap.size w w' → Calls _ _ _ _ _) := hc
  clear hc
  have HO : Hid (∀ w', Below w.heap.size w w' → Calls _ _ _ _ _) := ho
  clear ho
  have HP1 : Hid (∀ w', Below w.heap.size w w' → Calls _ _ _ _ _) := hp1
  clear hp1
  have HP2 : Hid (∀ w', Below w.heap.size w w' → Calls _ _ _ _ _) := hp2
  clear hp2
  have HQ : Hid (∀ w', Below w.heap.size w w' → Calls _ _ _ _ _) := hq
  clear hq
  clear h hV
  have hne : (r != day) = true := by rw [bne_iff_ne]; omega
  have hne1 : (r == day) = false := by rw [beq_eq_false_iff_ne]; omega
  have he1 : (e == 0) = false := by rw [beq_eq_false_iff_ne]; exact he
  clear he
  go_enter Tryd.func6, Tryd.ntmps6
  go_wp2_with (first
    | (go_at_call 17; ((with_reducible refine (HL.out _ B1.out).mono ?_); rintro x w2 ⟨rfl, hb⟩; have B2 := Lib.hid (bt B1.out hb); have C2 := Lib.hid (C1.out.below hb); have k0 := C2.out.c0; have k1 := C2.out.c1; clear hb))
    | (go_at_call 19; ((with_reducible refine (HG.out _ B2.out).mono ?_); rintro x w3 ⟨rfl, hb⟩; have B3 := Lib.hid (bt B2.out hb); have C3 := Lib.hid (C2.out.below hb); have k0 := C3.out.c0; have k1 := C3.out.c1; clear hb))
    | (go_at_call 12; ((with_reducible refine (HR.out _ B3.out).mono ?_); rintro x w4 ⟨rfl, hb⟩; have B4 := Lib.hid (bt B3.out hb); have C4 := Lib.hid (C3.out.below hb); have k0 := C4.out.c0; have k1 := C4.out.c1; clear hb))
    | (go_at_call 11; ((with_reducible refine (HBr.out _ B4.out).mono ?_); rintro x w5 ⟨rfl, hb⟩; have B5 := Lib.hid (bt B4.out hb); have C5 := Lib.hid (C4.out.below hb); have k0 := C5.out.c0; have k1 := C5.out.c1; clear hb))
    | (go_at_call 11; ((with_reducible refine (HBd.out _ B5.out).mono ?_); rintro x w6 ⟨rfl, hb⟩; have B6 := Lib.hid (bt B5.out hb); have C6 := Lib.hid (C5.out.below hb); have k0 := C6.out.c0; have k1 := C6.out.c1; clear hb))
    | (go_at_call 14; ((with_reducible refine (HC.out _ B6.out).mono ?_); rintro x w7 ⟨rfl, hb⟩; have B7 := Lib.hid (bt B6.out hb); have C7 := Lib.hid (C6.out.below hb); have k0 := C7.out.c0; have k1 := C7.out.c1; clear hb))
    | (go_at_call 12; ((with_reducible refine (HO.out _ B7.out).mono ?_); rintro x w8 ⟨rfl, hb⟩; have B8 := Lib.hid (bt B7.out hb); have C8 := Lib.hid (C7.out.below hb); have k0 := C8.out.c0; have k1 := C8.out.c1; clear hb))
    | (go_at_call 23; ((with_reducible refine (HP1.out _ B8.out).mono ?_); rintro x w' ⟨rfl, rfl⟩))
    | (go_at_call 23; ((with_reducible refine (HP2.out _ B8.out).mono ?_); rintro x w' ⟨rfl, rfl⟩))
    | (go_at_call 12; ((with_reducible refine (HQ.out _ B8.out).mono ?_); rintro x w9 ⟨rfl, hb⟩; have B9 := Lib.hid (bt B8.out hb); clear hb)))
  go_ret
  first
    | exact ⟨rfl, B9.out⟩
    | exact ⟨ret_bool (by simp [*]), B9.out⟩

set_option maxRecDepth 100000 in
set_option maxHeartbeats 1600000 in
theorem near_4cG (we : Int) (A : Option Addr) (c : Nat) (hs : List Int) (day r t y m d y2 m2 d2 : Int) (w : World) (h : CalIn w we A c hs) (hV : VarS w) (hg : ∀ w', Below w.heap.size w w' → GrtS we A c hs false w') (hr : ∀ w', Below w.heap.size w w' → RlcS we A c hs day 4 r 0 w') (hbr : ∀ w', Below w.heap.size w w' → BusS we A c hs r true 0 w') (hbd : ∀ w', Below w.heap.size w w' → BusS we A c hs day false 0 w') (hc : ∀ w', Below w.heap.size w w' → CntS we A c hs day r 0 0 w') (hrd : day < r) (ho : ∀ w', Below w.heap.size w w' → RlcS we A c hs day 2 t 0 w') (hp1 : ∀ w', Below w.heap.size w w' → PtsS day y m d w') (hp2 : ∀ w', Below w.heap.size w w' → PtsS t y2 m2 d2 w') (hq : ∀ w', Below w.heap.size w w' → RlcS we A c hs day 1 r 0 w') (hy : y ≠ y2) :
    Calls Tryd.prog 6 #[.agg #[.int .u8 we, .slice A hs.length c], .int .i64 day, .int .u8 4] w fun e w' => e = .returned (.bool true) ∧ Below w.heap.size w w' := by
  have C1 := Lib.hid (CalAt.new (we := we) (c := c) h.rd)
  have B1 := Lib.hid (bel1 w (.cells #[.int .u8 we, .slice A hs.length c] 24))
  have c0 := C1.out.c0
  have c1 := C1.out.c1
  have HL : Hid (∀ w', Below w.heap.size w w' → Calls _ _ _ _ _) := fun w' hb => calive_any w' (hV.below hb)
  have HG : Hid (∀ w', Below w.heap.size w w' → Calls _ _ _ _ _) := hg
  clear hg
  have HR : Hid (∀ w', Below w.heap.size w w' → Calls _ _ _ _ _) := hr
  clear hr
  have HBr : Hid (∀ w', Below w.heap.size w w' → Calls _ _ _ _ _) := hbr
  clear hbr
  have HBd : Hid (∀ w', Below w.heap.size w w' → Calls _ _ _ _ _) := hbd
  clear hbd
  have HC : Hid (∀ w', Below w.heap.size w w' → Calls _ _ _ _ _) := hc
  clear hc
  have HO : Hid (∀ w', Below w.heap.size w w' → Calls _ _ _ _ _) := ho
  clear ho
  have HP1 : Hid (∀ w', Below w.heap.size w w' → Calls _ _ _ _ _) := hp1
  clear hp1
  have HP2 : Hid (∀ w', Below w.heap.size w w' → Calls _ _ _ _ _) := hp2
  clear hp2
  have HQ : Hid (∀ w', Below w.heap.size w w' → Calls _ _ _ _ _) := hq
  clear hq
  clear h hV
  have hne : (r != day) = true := by rw [bne_iff_ne]; omega
  have hne1 : (r == day) = false := by rw [beq_eq_false_iff_ne]; omega
  have hy1 : (y == y2) = false := by rw [beq_eq_false_iff_ne]; exact hy
  clear hy
  go_enter Tryd.func6, Tryd.ntmps6
  go_wp2_with (first
    | (go_at_call 17; ((with_reducible refine (HL.out _ B1.out).mono ?_); rintro x w2 ⟨rfl, hb⟩; have B2 := Lib.hid (bt B1.out hb); have C2 := Lib.hid (C1.out.below hb); have k0 := C2.out.c0; have k1 := C2.out.c1; clear hb))
    | (go_at_call 19; ((with_reducible refine (HG.out _ B2.out).mono ?_); rintro x w3 ⟨rfl, hb⟩; have B3 := Lib.hid (bt B2.out hb); have C3 := Lib.hid (C2.out.below hb); have k0 := C3.out.c0; have k1 := C3.out.c1; clear hb))
    | (go_at_call 12; ((with_reducible refine (HR.out _ B3.out).mono ?_); rintro x w4 ⟨rfl, hb⟩; have B4 := Lib.hid (bt B3.out hb); have C4 := Lib.hid (C3.out.below hb); have k0 := C4.out.c0; have k1 := C4.out.c1; clear hb))
    | (go_at_call 11; ((with_reducible refine (HBr.out _ B4.out).mono ?_); rintro x w5 ⟨rfl, hb⟩; have B5 := Lib.hid (bt B4.out hb); have C5 := Lib.hid (C4.out.below hb); have k0 := C5.out.c0; have k1 := C5.out.c1; clear hb))
    | (go_at_call 11; ((with_reducible refine (HBd.out _ B5.out).mono ?_); rintro x w6 ⟨rfl, hb⟩; have B6 := Lib.hid (bt B5.out hb); have C6 := Lib.hid (C5.out.below hb); have k0 := C6.out.c0; have k1 := C6.out.c1; clear hb))
    | (go_at_call 14; ((with_reducible refine (HC.out _ B6.out).mono ?_); rintro x w7 ⟨rfl, hb⟩; have B7 := Lib.hid (bt B6.out hb); have C7 := Lib.hid (C6.out.below hb); have k0 := C7.out.c0; have k1 := C7.out.c1; clear hb))
    | (go_at_call 12; ((with_reducible refine (HO.out _ B7.out).mono ?_); rintro x w8 ⟨rfl, hb⟩; have B8 := Lib.hid (bt B7.out hb); have C8 := Lib.hid (C7.out.below hb); have k0 := C8.out.c0; have k1 := C8.out.c1; clear hb))
    | (go_at_call 23; ((with_reducible refine (HP1.out _ B8.out).mono ?_); rintro x w' ⟨rfl, rfl⟩))
    | (go_at_call 23; ((with_reducible refine (HP2.out _ B8.out).mono ?_); rintro x w' ⟨rfl, rfl⟩))
    | (go_at_call 12; ((with_reducible refine (HQ.out _ B8.out).mono ?_); rintro x w9 ⟨rfl, hb⟩; have B9 := Lib.hid (bt B8.out hb); clear hb)))
  go_ret
  first
    | exact ⟨rfl, B9.out⟩
    | exact ⟨ret_bool (by simp [*]), B9.out⟩

set_option maxRecDepth 100000 in
set_option maxHeartbeats 1600000 in
theorem near_4dG (we : Int) (A : Option Addr) (c : Nat) (hs : List Int) (day r t y m d m2 d2 : Int) (w : World) (h : CalIn w we A c hs) (hV : VarS w) (hg : ∀ w', Below w.heap.size w w' → GrtS we A c hs false w') (hr : ∀ w', Below w.heap.size w w' → RlcS we A c hs day 4 r 0 w') (hbr : ∀ w', Below w.heap.size w w' → BusS we A c hs r true 0 w') (hbd : ∀ w', Below w.heap.size w w' → BusS we A c hs day false 0 w') (hc : ∀ w', Below w.heap.size w w' → CntS we A c hs day r 0 0 w') (hrd : day < r) (ho : ∀ w', Below w.heap.size w w' → RlcS we A c hs day 2 t 0 w') (hp1 : ∀ w', Below w.heap.size w w' → PtsS day y m d w') (hp2 : ∀ w', Below w.heap.size w w' → PtsS t y m2 d2 w') (hq : ∀ w', Below w.heap.size w w' → RlcS we A c hs day 1 r 0 w') (hm : m ≠ m2) :
    Calls Tryd.prog 6 #[.agg #[.int .u8 we, .slice A hs.length c], .int .i64 day, .int .u8 4] w fun e w' => e = .returned (.bool true) ∧ Below w.heap.size w w' := by
  have C1 := Lib.hid (CalAt.new (we := we) (c := c) h.rd)
  have B1 := Lib.hid (bel1 w (.cells #[.int .u8 we, .slice A hs.length c] 24))
  have c0 := C1.out.c0
  have c1 := C1.out.c1
  have HL : Hid (∀ w', Below w.heap.size w w' → Calls _ _ _ _ _) := fun w' hb => calive_any w' (hV.below hb)
  have HG : Hid (∀ w', Below w.heap.size w w' → Calls _ _ _ _ _) := hg
  clear hg
  have HR : Hid (∀ w', Below w.heap.size w w' → Calls _ _ _ _ _) := hr
  clear hr
  have HBr : Hid (∀ w', Below w.heap.size w w' → Calls _ _ _ _ _) := hbr
  clear hbr
  have HBd : Hid (∀ w', Below w.heap.size w w' → Calls _ _ _ _ _) := hbd
  clear hbd
  have HC : Hid (∀ w', Below w.heap.size w w' → Calls _ _ _ _ _) := hc
  clear hc
  have HO : Hid (∀ w', Below w.heap.size w w' → Calls _ _ _ _ _) := ho
  clear ho
  have HP1 : Hid (∀ w', Below w.heap.size w w' → Calls _ _ _ _ _) := hp1
  clear hp1
  have HP2 : Hid (∀ w', Below w.heap.size w w' → Calls _ _ _ _ _) := hp2
  clear hp2
  have HQ : Hid (∀ w', Below w.heap.size w w' → Calls _ _ _ _ _) := hq
  clear hq
  clear h hV
  have hne : (r != day) = true := by rw [bne_iff_ne]; omega
  have hne1 : (r == day) = false := by rw [beq_eq_false_iff_ne]; omega
  have hy1 : (m == m2) = false := by rw [beq_eq_false_iff_ne]; exact hm
  clear hm
  go_enter Tryd.func6, Tryd.ntmps6
  go_wp2_with (first
    | (go_at_call 17; ((with_reducible refine (HL.out _ B1.out).mono ?_); rintro x w2 ⟨rfl, hb⟩; have B2 := Lib.hid (bt B1.out hb); have C2 := Lib.hid (C1.out.below hb); have k0 := C2.out.c0; have k1 := C2.out.c1; clear hb))
    | (go_at_call 19; ((with_reducible refine (HG.out _ B2.out).mono ?_); rintro x w3 ⟨rfl, hb⟩; have B3 := Lib.hid (bt B2.out hb); have C3 := Lib.hid (C2.out.below hb); have k0 := C3.out.c0; have k1 := C3.out.c1; clear hb))
    | (go_at_call 12; ((with_reducible refine (HR.out _ B3.out).mono ?_); rintro x w4 ⟨rfl, hb⟩; have B4 := Lib.hid (bt B3.out hb); have C4 := Lib.hid (C3.out.below hb); have k0 := C4.out.c0; have k1 := C4.out.c1; clear hb))
    | (go_at_call 11; ((with_reducible refine (HBr.out _ B4.out).mono ?_); rintro x w5 ⟨rfl, hb⟩; have B5 := Lib.hid (bt B4.out hb); have C5 := Lib.hid (C4.out.below hb); have k0 := C5.out.c0; have k1 := C5.out.c1; clear hb))
    | (go_at_call 11; ((with_reducible refine (HBd.out _ B5.out).mono ?_); rintro x w6 ⟨rfl, hb⟩; have B6 := Lib.hid (bt B5.out hb); have C6 := Lib.hid (C5.out.below hb); have k0 := C6.out.c0; have k1 := C6.out.c1; clear hb))
    | (go_at_call 14; ((with_reducible refine (HC.out _ B6.out).mono ?_); rintro x w7 ⟨rfl, hb⟩; have B7 := Lib.hid (bt B6.out hb); have C7 := Lib.hid (C6.out.below hb); have k0 := C7.out.c0; have k1 := C7.out.c1; clear hb))
    | (go_at_call 12; ((with_reducible refine (HO.out _ B7.out).mono ?_); rintro x w8 ⟨rfl, hb⟩; have B8 := Lib.hid (bt B7.out hb); have C8 := Lib.hid (C7.out.below hb); have k0 := C8.out.c0; have k1 := C8.out.c1; clear hb))
    | (go_at_call 23; ((with_reducible refine (HP1.out _ B8.out).mono ?_); rintro x w' ⟨rfl, rfl⟩))
    | (go_at_call 23; ((with_reducible refine (HP2.out _ B8.out).mono ?_); rintro x w' ⟨rfl, rfl⟩))
    | (go_at_call 12; ((with_reducible refine (HQ.out _ B8.out).mono ?_); rintro x w9 ⟨rfl, hb⟩; have B9 := Lib.hid (bt B8.out hb); clear hb)))
  go_ret
  first
    | exact ⟨rfl, B9.out⟩
    | exact ⟨ret_bool (by simp [*]), B9.out⟩
end Go.Proofs.YtgnmcjfocnnffaaDoor

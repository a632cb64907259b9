/- The walk of the law CalendarAdds. -/
import Derived.Test.YtgnmcjfocnnffaaDoorCalL3
namespace Go.Proofs.YtgnmcjfocnnffaaDoor
open Go Go.RowKit

def AddS (we : Int) (A : Option Addr) (c : Nat) (hs : List Int) (a n v e : Int) (w : World) : Prop := Calls Tryd.prog 13 #[.agg #[.int .u8 we, .slice A hs.length c], .int .i64 a, .int .i64 n] w fun x w' => x = .returned (.tuple #[.int .i64 v, .int .i64 e]) ∧ Below w.heap.size w w'
def BusS (we : Int) (A : Option Addr) (c : Nat) (hs : List Int) (a : Int) (b : Bool) (e : Int) (w : World) : Prop := Calls Tryd.prog 11 #[.agg #[.int .u8 we, .slice A hs.length c], .int .i64 a] w fun x w' => x = .returned (.tuple #[.bool b, .int .i64 e]) ∧ Below w.heap.size w w'
def RlcS (we : Int) (A : Option Addr) (c : Nat) (hs : List Int) (a r v e : Int) (w : World) : Prop := Calls Tryd.prog 12 #[.agg #[.int .u8 we, .slice A hs.length c], .int .i64 a, .int .u8 r] w fun x w' => x = .returned (.tuple #[.int .i64 v, .int .i64 e]) ∧ Below w.heap.size w w'

set_option maxRecDepth 100000 in
set_option maxHeartbeats 1600000 in
theorem adds_great (we : Int) (A : Option Addr) (c : Nat) (hs : List Int) (day n : Int) (w : World) (h : CalIn w we A c hs) (hV : VarS w) (hg : ∀ w', Below w.heap.size w w' → GrtS we A c hs true w') :
    Calls Tryd.prog 7 #[.agg #[.int .u8 we, .slice A hs.length c], .int .i64 day, .int .i64 n] w fun e w' => e = .returned (.bool true) ∧ Below w.heap.size w w' := by
  have C1 := Lib.hid (CalAt.new (we := we) (c := c) h.rd)
  have B1 := Lib.hid (bel1 w (.cells #[.int .u8 we, .slice A hs.length c] 24))
  have c0 := C1.out.c0
  have c1 := C1.out.c1
  have HL : Hid (∀ w', Below w.heap.size w w' → Calls _ _ _ _ _) := fun w' hb => calive_any w' (hV.below hb)
  have HG : Hid (∀ w', Below w.heap.size w w' → Calls _ _ _ _ _) := hg
  clear hg
  clear h hV
  go_enter Tryd.func7, Tryd.ntmps7
  go_wp2_with (first
    | (go_at_call 17; ((with_reducible refine (HL.out _ B1.out).mono ?_); rintro x w2 ⟨rfl, hb⟩; have B2 := Lib.hid (bt B1.out hb); have C2 := Lib.hid (C1.out.below hb); have k0 := C2.out.c0; have k1 := C2.out.c1; clear hb))
    | (go_at_call 19; ((with_reducible refine (HG.out _ B2.out).mono ?_); rintro x w3 ⟨rfl, hb⟩; have B3 := Lib.hid (bt B2.out hb); clear hb)))
  go_ret
  exact ⟨rfl, B3.out⟩

set_option maxRecDepth 100000 in
set_option maxHeartbeats 1600000 in
theorem adds_err (we : Int) (A : Option Addr) (c : Nat) (hs : List Int) (day n e : Int) (w : World) (h : CalIn w we A c hs) (hV : VarS w) (hg : ∀ w', Below w.heap.size w w' → GrtS we A c hs false w') (ha : ∀ w', Below w.heap.size w w' → AddS we A c hs day n 0 e w') (he : e ≠ 0) :
    Calls Tryd.prog 7 #[.agg #[.int .u8 we, .slice A hs.length c], .int .i64 day, .int .i64 n] w fun e w' => e = .returned (.bool true) ∧ Below w.heap.size w w' := by
  have C1 := Lib.hid (CalAt.new (we := we) (c := c) h.rd)
  have B1 := Lib.hid (bel1 w (.cells #[.int .u8 we, .slice A hs.length c] 24))
  have c0 := C1.out.c0
  have c1 := C1.out.c1
  have HL : Hid (∀ w', Below w.heap.size w w' → Calls _ _ _ _ _) := fun w' hb => calive_any w' (hV.below hb)
  have HG : Hid (∀ w', Below w.heap.size w w' → Calls _ _ _ _ _) := hg
  clear hg
  have HA : Hid (∀ w', Below w.heap.size w w' → Calls _ _ _ _ _) := ha
  clear ha
  clear h hV
  have he1 : (e == 0) = false := by rw [beq_eq_false_iff_ne]; exact he
  have he2 : (e != 0) = true := by rw [bne_iff_ne]; exact he
  clear he
  go_enter Tryd.func7, Tryd.ntmps7
  go_wp2_with (first
    | (go_at_call 17; ((with_reducible refine (HL.out _ B1.out).mono ?_); rintro x w2 ⟨rfl, hb⟩; have B2 := Lib.hid (bt B1.out hb); have C2 := Lib.hid (C1.out.below hb); have k0 := C2.out.c0; have k1 := C2.out.c1; clear hb))
    | (go_at_call 19; ((with_reducible refine (HG.out _ B2.out).mono ?_); rintro x w3 ⟨rfl, hb⟩; have B3 := Lib.hid (bt B2.out hb); have C3 := Lib.hid (C2.out.below hb); have k0 := C3.out.c0; have k1 := C3.out.c1; clear hb))
    | (go_at_call 13; ((with_reducible refine (HA.out _ B3.out).mono ?_); rintro x w4 ⟨rfl, hb⟩; have B4 := Lib.hid (bt B3.out hb); clear hb)))
  go_ret
  exact ⟨rfl, B4.out⟩

set_option maxRecDepth 100000 in
set_option maxHeartbeats 1600000 in
theorem adds_zero (we : Int) (A : Option Addr) (c : Nat) (hs : List Int) (day r : Int) (w : World) (h : CalIn w we A c hs) (hV : VarS w) (hg : ∀ w', Below w.heap.size w w' → GrtS we A c hs false w') (ha : ∀ w', Below w.heap.size w w' → AddS we A c hs day 0 r 0 w') (hb : ∀ w', Below w.heap.size w w' → BusS we A c hs r true 0 w') (hr : ∀ w', Below w.heap.size w w' → RlcS we A c hs day 1 r 0 w') :
    Calls Tryd.prog 7 #[.agg #[.int .u8 we, .slice A hs.length c], .int .i64 day, .int .i64 0] w fun e w' => e = .returned (.bool true) ∧ Below w.heap.size w w' := by
  have C1 := Lib.hid (CalAt.new (we := we) (c := c) h.rd)
  have B1 := Lib.hid (bel1 w (.cells #[.int .u8 we, .slice A hs.length c] 24))
  have c0 := C1.out.c0
  have c1 := C1.out.c1
  have HL : Hid (∀ w', Below w.heap.size w w' → Calls _ _ _ _ _) := fun w' hb => calive_any w' (hV.below hb)
  have HG : Hid (∀ w', Below w.heap.size w w' → Calls _ _ _ _ _) := hg
  clear hg
  have HA : Hid (∀ w', Below w.heap.size w w' → Calls _ _ _ _ _) := ha
  clear ha
  have HB : Hid (∀ w', Below w.heap.size w w' → Calls _ _ _ _ _) := hb
  clear hb
  have HR : Hid (∀ w', Below w.heap.size w w' → Calls _ _ _ _ _) := hr
  clear hr
  clear h hV
  go_enter Tryd.func7, Tryd.ntmps7
  go_wp2_with (first
    | (go_at_call 17; ((with_reducible refine (HL.out _ B1.out).mono ?_); rintro x w2 ⟨rfl, hb⟩; have B2 := Lib.hid (bt B1.out hb); have C2 := Lib.hid (C1.out.below hb); have k0 := C2.out.c0; have k1 := C2.out.c1; clear hb))
    | (go_at_call 19; ((with_reducible refine (HG.out _ B2.out).mono ?_); rintro x w3 ⟨rfl, hb⟩; have B3 := Lib.hid (bt B2.out hb); have C3 := Lib.hid (C2.out.below hb); have k0 := C3.out.c0; have k1 := C3.out.c1; clear hb))
    | (go_at_call 13; ((with_reducible refine (HA.out _ B3.out).mono ?_); rintro x w4 ⟨rfl, hb⟩; have B4 := Lib.hid (bt B3.out hb); have C4 := Lib.hid (C3.out.below hb); have k0 := C4.out.c0; have k1 := C4.out.c1; clear hb))
    | (go_at_call 11; ((with_reducible refine (HB.out _ B4.out).mono ?_); rintro x w5 ⟨rfl, hb⟩; have B5 := Lib.hid (bt B4.out hb); have C5 := Lib.hid (C4.out.below hb); have k0 := C5.out.c0; have k1 := C5.out.c1; clear hb))
    | (go_at_call 12; ((with_reducible refine (HR.out _ B5.out).mono ?_); rintro x w6 ⟨rfl, hb⟩; have B6 := Lib.hid (bt B5.out hb); clear hb)))
  go_ret
  exact ⟨rfl, B6.out⟩

set_option maxRecDepth 100000 in
set_option maxHeartbeats 1600000 in
theorem adds_neg (we : Int) (A : Option Addr) (c : Nat) (hs : List Int) (day n r : Int) (w : World) (h : CalIn w we A c hs) (hV : VarS w) (hg : ∀ w', Below w.heap.size w w' → GrtS we A c hs false w') (ha : ∀ w', Below w.heap.size w w' → AddS we A c hs day n r 0 w') (hb : ∀ w', Below w.heap.size w w' → BusS we A c hs r true 0 w') (hc : ∀ w', Below w.heap.size w w' → CntS we A c hs r day (-n) 0 w') (hn : n < 0) (hn1 : -99999 ≤ n) (hrd : r < day) :
    Calls Tryd.prog 7 #[.agg #[.int .u8 we, .slice A hs.length c], .int .i64 day, .int .i64 n] w fun e w' => e = .returned (.bool true) ∧ Below w.heap.size w w' := by
  have C1 := Lib.hid (CalAt.new (we := we) (c := c) h.rd)
  have B1 := Lib.hid (bel1 w (.cells #[.int .u8 we, .slice A hs.length c] 24))
  have c0 := C1.out.c0
  have c1 := C1.out.c1
  have HL : Hid (∀ w', Below w.heap.size w w' → Calls _ _ _ _ _) := fun w' hb => calive_any w' (hV.below hb)
  have HG : Hid (∀ w', Below w.heap.size w w' → Calls _ _ _ _ _) := hg
  clear hg
  have HA : Hid (∀ w', Below w.heap.size w w' → Calls _ _ _ _ _) := ha
  clear ha
  have HB : Hid (∀ w', Below w.heap.size w w' → Calls _ _ _ _ _) := hb
  clear hb
  have HC : Hid (∀ w', Below w.heap.size w w' → Calls _ _ _ _ _) := hc
  clear hc
  clear h hV
  go_enter Tryd.func7, Tryd.ntmps7
  go_wp2_with (first
    | (go_at_call 17; ((with_reducible refine (HL.out _ B1.out).mono ?_); rintro x w2 ⟨rfl, hb⟩; have B2 := Lib.hid (bt B1.out hb); have C2 := Lib.hid (C1.out.below hb); have k0 := C2.out.c0; have k1 := C2.out.c1; clear hb))
    | (go_at_call 19; ((with_reducible refine (HG.out _ B2.out).mono ?_); rintro x w3 ⟨rfl, hb⟩; have B3 := Lib.hid (bt B2.out hb); have C3 := Lib.hid (C2.out.below hb); have k0 := C3.out.c0; have k1 := C3.out.c1; clear hb))
    | (go_at_call 13; ((with_reducible refine (HA.out _ B3.out).mono ?_); rintro x w4 ⟨rfl, hb⟩; have B4 := Lib.hid (bt B3.out hb); have C4 := Lib.hid (C3.out.below hb); have k0 := C4.out.c0; have k1 := C4.out.c1; clear hb))
    | (go_at_call 11; ((with_reducible refine (HB.out _ B4.out).mono ?_); rintro x w5 ⟨rfl, hb⟩; have B5 := Lib.hid (bt B4.out hb); have C5 := Lib.hid (C4.out.below hb); have k0 := C5.out.c0; have k1 := C5.out.c1; clear hb))
    | (go_at_call 14; ((with_reducible refine (HC.out _ B5.out).mono ?_); rintro x w6 ⟨rfl, hb⟩; have B6 := Lib.hid (bt B5.out hb); clear hb)))
  go_ret
  exact ⟨rfl, B6.out⟩

set_option maxRecDepth 100000 in
set_option maxHeartbeats 1600000 in
theorem adds_pos1 (we : Int) (A : Option Addr) (c : Nat) (hs : List Int) (day n r v e : Int) (w : World) (h : CalIn w we A c hs) (hV : VarS w) (hg : ∀ w', Below w.heap.size w w' → GrtS we A c hs false w') (ha : ∀ w', Below w.heap.size w w' → AddS we A c hs day n r 0 w') (hb : ∀ w', Below w.heap.size w w' → BusS we A c hs r true 0 w') (hc : ∀ w', Below w.heap.size w w' → CntS we A c hs (day + 1) r (n - 1) 0 w') (hk : ∀ w', Below w.heap.size w w' → AddS we A c hs r (-n) v e w') (hh : ∀ w', Below w.heap.size w w' → BusS we A c hs day false 0 w') (hn : 0 < n) (hn1 : n ≤ 99999) (d0 : 0 ≤ day) (d1 : day ≤ 99999) (hrd : day < r) :
    Calls Tryd.prog 7 #[.agg #[.int .u8 we, .slice A hs.length c], .int .i64 day, .int .i64 n] w fun e w' => e = .returned (.bool true) ∧ Below w.heap.size w w' := by
  have C1 := Lib.hid (CalAt.new (we := we) (c := c) h.rd)
  have B1 := Lib.hid (bel1 w (.cells #[.int .u8 we, .slice A hs.length c] 24))
  have c0 := C1.out.c0
  have c1 := C1.out.c1
  have HL : Hid (∀ w', Below w.heap.size w w' → Calls _ _ _ _ _) := fun w' hb => calive_any w' (hV.below hb)
  have HG : Hid (∀ w', Below w.heap.size w w' → Calls _ _ _ _ _) := hg
  clear hg
  have HA : Hid (∀ w', Below w.heap.size w w' → Calls _ _ _ _ _) := ha
  clear ha
  have HB : Hid (∀ w', Below w.heap.size w w' → Calls _ _ _ _ _) := hb
  clear hb
  have HC : Hid (∀ w', Below w.heap.size w w' → Calls _ _ _ _ _) := hc
  clear hc
  have HK : Hid (∀ w', Below w.heap.size w w' → Calls _ _ _ _ _) := hk
  clear hk
  have HH : Hid (∀ w', Below w.heap.size w w' → Calls _ _ _ _ _) := hh
  clear hh
  clear h hV
  go_enter Tryd.func7, Tryd.ntmps7
  go_wp2_with (first
    | (go_at_call 17; ((with_reducible refine (HL.out _ B1.out).mono ?_); rintro x w2 ⟨rfl, hb⟩; have B2 := Lib.hid (bt B1.out hb); have C2 := Lib.hid (C1.out.below hb); have k0 := C2.out.c0; have k1 := C2.out.c1; clear hb))
    | (go_at_call 19; ((with_reducible refine (HG.out _ B2.out).mono ?_); rintro x w3 ⟨rfl, hb⟩; have B3 := Lib.hid (bt B2.out hb); have C3 := Lib.hid (C2.out.below hb); have k0 := C3.out.c0; have k1 := C3.out.c1; clear hb))
    | (go_at_call 13; ((with_reducible refine (HA.out _ B3.out).mono ?_); rintro x w4 ⟨rfl, hb⟩; have B4 := Lib.hid (bt B3.out hb); have C4 := Lib.hid (C3.out.below hb); have k0 := C4.out.c0; have k1 := C4.out.c1; clear hb))
    | (go_at_call 11; ((with_reducible refine (HB.out _ B4.out).mono ?_); rintro x w5 ⟨rfl, hb⟩; have B5 := Lib.hid (bt B4.out hb); have C5 := Lib.hid (C4.out.below hb); have k0 := C5.out.c0; have k1 := C5.out.c1; clear hb))
    | (go_at_call 14; ((with_reducible refine (HC.out _ B5.out).mono ?_); rintro x w6 ⟨rfl, hb⟩; have B6 := Lib.hid (bt B5.out hb); have C6 := Lib.hid (C5.out.below hb); have k0 := C6.out.c0; have k1 := C6.out.c1; clear hb))
    | (go_at_call 13; ((with_reducible refine (HK.out _ B6.out).mono ?_); rintro x w7 ⟨rfl, hb⟩; have B7 := Lib.hid (bt B6.out hb); have C7 := Lib.hid (C6.out.below hb); have k0 := C7.out.c0; have k1 := C7.out.c1; clear hb))
    | (go_at_call 11; ((with_reducible refine (HH.out _ B7.out).mono ?_); rintro x w8 ⟨rfl, hb⟩; have B8 := Lib.hid (bt B7.out hb); clear hb)))
  go_ret
  exact ⟨rfl, B8.out⟩

set_option maxRecDepth 100000 in
set_option maxHeartbeats 1600000 in
theorem adds_pos2 (we : Int) (A : Option Addr) (c : Nat) (hs : List Int) (day n r : Int) (w : World) (h : CalIn w we A c hs) (hV : VarS w) (hg : ∀ w', Below w.heap.size w w' → GrtS we A c hs false w') (ha : ∀ w', Below w.heap.size w w' → AddS we A c hs day n r 0 w') (hb : ∀ w', Below w.heap.size w w' → BusS we A c hs r true 0 w') (hc : ∀ w', Below w.heap.size w w' → CntS we A c hs (day + 1) r (n - 1) 0 w') (hk : ∀ w', Below w.heap.size w w' → AddS we A c hs r (-n) day 0 w') (hh : ∀ w', Below w.heap.size w w' → BusS we A c hs day true 0 w') (hn : 0 < n) (hn1 : n ≤ 99999) (d0 : 0 ≤ day) (d1 : day ≤ 99999) (hrd : day < r) :
    Calls Tryd.prog 7 #[.agg #[.int .u8 we, .slice A hs.length c], .int .i64 day, .int .i64 n] w fun e w' => e = .returned (.bool true) ∧ Below w.heap.size w w' := by
  have C1 := Lib.hid (CalAt.new (we := we) (c := c) h.rd)
  have B1 := Lib.hid (bel1 w (.cells #[.int .u8 we, .slice A hs.length c] 24))
  have c0 := C1.out.c0
  have c1 := C1.out.c1
  have HL : Hid (∀ w', Below w.heap.size w w' → Calls _ _ _ _ _) := fun w' hb => calive_any w' (hV.below hb)
  have HG : Hid (∀ w', Below w.heap.size w w' → Calls _ _ _ _ _) := hg
  clear hg
  have HA : Hid (∀ w', Below w.heap.size w w' → Calls _ _ _ _ _) := ha
  clear ha
  have HB : Hid (∀ w', Below w.heap.size w w' → Calls _ _ _ _ _) := hb
  clear hb
  have HC : Hid (∀ w', Below w.heap.size w w' → Calls _ _ _ _ _) := hc
  clear hc
  have HK : Hid (∀ w', Below w.heap.size w w' → Calls _ _ _ _ _) := hk
  clear hk
  have HH : Hid (∀ w', Below w.heap.size w w' → Calls _ _ _ _ _) := hh
  clear hh
  clear h hV
  go_enter Tryd.func7, Tryd.ntmps7
  go_wp2_with (first
    | (go_at_call 17; ((with_reducible refine (HL.out _ B1.out).mono ?_); rintro x w2 ⟨rfl, hb⟩; have B2 := Lib.hid (bt B1.out hb); have C2 := Lib.hid (C1.out.below hb); have k0 := C2.out.c0; have k1 := C2.out.c1; clear hb))
    | (go_at_call 19; ((with_reducible refine (HG.out _ B2.out).mono ?_); rintro x w3 ⟨rfl, hb⟩; have B3 := Lib.hid (bt B2.out hb); have C3 := Lib.hid (C2.out.below hb); have k0 := C3.out.c0; have k1 := C3.out.c1; clear hb))
    | (go_at_call 13; ((with_reducible refine (HA.out _ B3.out).mono ?_); rintro x w4 ⟨rfl, hb⟩; have B4 := Lib.hid (bt B3.out hb); have C4 := Lib.hid (C3.out.below hb); have k0 := C4.out.c0; have k1 := C4.out.c1; clear hb))
    | (go_at_call 11; ((with_reducible refine (HB.out _ B4.out).mono ?_); rintro x w5 ⟨rfl, hb⟩; have B5 := Lib.hid (bt B4.out hb); have C5 := Lib.hid (C4.out.below hb); have k0 := C5.out.c0; have k1 := C5.out.c1; clear hb))
    | (go_at_call 14; ((with_reducible refine (HC.out _ B5.out).mono ?_); rintro x w6 ⟨rfl, hb⟩; have B6 := Lib.hid (bt B5.out hb); have C6 := Lib.hid (C5.out.below hb); have k0 := C6.out.c0; have k1 := C6.out.c1; clear hb))
    | (go_at_call 13; ((with_reducible refine (HK.out _ B6.out).mono ?_); rintro x w7 ⟨rfl, hb⟩; have B7 := Lib.hid (bt B6.out hb); have C7 := Lib.hid (C6.out.below hb); have k0 := C7.out.c0; have k1 := C7.out.c1; clear hb))
    | (go_at_call 11; ((with_reducible refine (HH.out _ B7.out).mono ?_); rintro x w8 ⟨rfl, hb⟩; have B8 := Lib.hid (bt B7.out hb); clear hb)))
  go_ret
  exact ⟨rfl, B8.out⟩


theorem nE_zero {o : Option Int} (h : nE o = 0) : o = some (nV o) := by
  cases o with
  | none => simp [nE] at h
  | some t => rfl
theorem nV_zero {o : Option Int} (h : nE o ≠ 0) : nV o = 0 := by
  cases o with
  | none => rfl
  | some t => exact absurd rfl h
theorem chk1_ok {we : Int} {hs : List Int} {a : Int} (h : valB we hs = true) (ha : 0 ≤ a ∧ a ≤ 99999) : chkE we hs [a] = 0 := by
  unfold chkE; rw [h]; simp [(dayB_iff a).2 ha]
theorem ad_ok {we : Int} {hs : List Int} {day n : Int} (h : adE we hs day n = 0) : valB we hs = true ∧ (0 ≤ day ∧ day ≤ 99999) ∧ (-99999 ≤ n ∧ n ≤ 99999) ∧ adO (bizB we hs) day n = some (adV we hs day n) := by
  unfold adE at h
  by_cases hc : chkE we hs [day] = 0
  · rw [if_pos hc] at h
    obtain ⟨h1, h2⟩ := chk_val hc
    by_cases hi : inB n = true
    · rw [if_pos hi] at h
      have hi' := hi
      simp only [inB, Bool.and_eq_true, decide_eq_true_eq] at hi'
      refine ⟨h1, h2 day (by simp), hi', ?_⟩
      unfold adV; rw [if_pos hc, if_pos hi]; exact nE_zero h
    · rw [if_neg hi] at h; simp at h
  · rw [if_neg hc] at h; exact absurd h hc
theorem ad_bad {we : Int} {hs : List Int} {day n : Int} (h : adE we hs day n ≠ 0) : adV we hs day n = 0 := by
  unfold adE at h; unfold adV
  split
  · next hc =>
    rw [if_pos hc] at h
    split
    · next hi => rw [if_pos hi] at h; exact nV_zero h
    · rfl
  · rfl
/-- What adding comes to. -/
theorem ad_val {we : Int} {hs : List Int} {day n r : Int} (hval : valB we hs = true) (hd : 0 ≤ day ∧ day ≤ 99999) (hn : -99999 ≤ n ∧ n ≤ 99999) (h : adO (bizB we hs) day n = some r) : adV we hs day n = r ∧ adE we hs day n = 0 := by
  unfold adV adE
  have hi : inB n = true := by simp [inB, hn.1, hn.2]
  rw [if_pos (chk1_ok hval hd), if_pos (chk1_ok hval hd), if_pos hi, if_pos hi, h]; exact ⟨rfl, rfl⟩
theorem fw_iff (p : Int → Bool) (d n r : Int) (h0 : 0 ≤ d) (h1 : d ≤ 100000) (hn : 1 ≤ n) : fwO p d n = some r ↔ (p r = true ∧ d ≤ r ∧ r ≤ 99999 ∧ cumI p r = cumI p d + (n - 1)) := nth_fwd p _ d n r (At.fwd d h0 h1) hn
theorem bw_iff (p : Int → Bool) (d n r : Int) (h0 : -1 ≤ d) (h1 : d ≤ 99999) (hn : 1 ≤ n) : bwO p d n = some r ↔ (p r = true ∧ 0 ≤ r ∧ r ≤ d ∧ cumI p (d + 1) = cumI p r + n) := nth_bwd p _ d n r (At.bwd d h0 h1) hn
theorem bus_at {we : Int} {hs : List Int} (A : Option Addr) (c : Nat) (d : Int) (hval : valB we hs = true) (hd : 0 ≤ d ∧ d ≤ 99999) (w : World) (h : CalIn w we A c hs) : BusS we A c hs d (bizB we hs d) 0 w :=
  business_any we A c hs d _ 0 w h (chk1_ok hval hd) (.inl ⟨rfl, rfl⟩)

theorem adds_law (we : Int) (A : Option Addr) (c : Nat) (hs : List Int) (day n : Int) (w : World) (h : CalIn w we A c hs) (n0 : -9223372036854775808 ≤ n) (n1 : n ≤ 9223372036854775807) (hV : VarS w) :
    Calls Tryd.prog 7 #[.agg #[.int .u8 we, .slice A hs.length c], .int .i64 day, .int .i64 n] w fun e w' => e = .returned (.bool true) ∧ Below w.heap.size w w' := by
  have hg : ∀ b, grtB hs = b → ∀ w', Below w.heap.size w w' → GrtS we A c hs b w' := fun b hb w' hw => great_any we A c hs b w' (h.below hw) hb
  cases hgr : grtB hs with
  | true => exact adds_great we A c hs day n w h hV (hg true hgr)
  | false =>
    have ha : ∀ w', Below w.heap.size w w' → AddS we A c hs day n (adV we hs day n) (adE we hs day n) w' := fun w' hw => add_any we A c hs day n _ _ w' (h.below hw) n0 n1 (hV.d.below hw) rfl rfl
    by_cases he : adE we hs day n = 0
    · obtain ⟨hval, hd, hn, ho⟩ := ad_ok he
      generalize adV we hs day n = r at ha ho
      rw [he] at ha
      rcases Int.lt_trichotomy n 0 with hlt | rfl | hgt
      · have e0 : adO (bizB we hs) day n = bwO (bizB we hs) (day - 1) (-n) := by unfold adO; rw [if_neg (by omega), if_pos hlt]
        rw [e0, bw_iff _ _ _ _ (by omega) (by omega) (by omega)] at ho
        obtain ⟨p1, p2, p3, p4⟩ := ho
        have hr : 0 ≤ r ∧ r ≤ 99999 := ⟨p2, by omega⟩
        refine adds_neg we A c hs day n r w h hV (hg false hgr) ha (fun w' hw => by have := bus_at A c r hval hr w' (h.below hw); rw [p1] at this; exact this) (fun w' hw => ?_) hlt hn.1 (by omega)
        refine count_any we A c hs r day _ 0 w' (h.below hw) ?_ (chk_ok hval hr hd)
        rw [(coV_ok (chk_ok hval hr hd)).1]
        have e1 : day - 1 + 1 = day := by omega
        rw [e1] at p4; omega
      · have e0 : adO (bizB we hs) day 0 = fwO (bizB we hs) day 1 := rfl
        have hoo := ho
        rw [e0, fw_iff _ _ _ _ hd.1 (by omega) (by omega)] at ho
        obtain ⟨p1, p2, p3, p4⟩ := ho
        have hr : 0 ≤ r ∧ r ≤ 99999 := ⟨by omega, p3⟩
        refine adds_zero we A c hs day r w h hV (hg false hgr) ha (fun w' hw => by have := bus_at A c r hval hr w' (h.below hw); rw [p1] at this; exact this) (fun w' hw => ?_)
        obtain ⟨S, hS0⟩ := smIs_ex day hd.1
        have hS : 0 ≤ day → SmIs day S := fun _ => hS0
        refine roll_any we A c hs S day 1 r 0 w' (h.below hw) (by decide) hS (hV.d.below hw) ?_ ?_
        · unfold rlV; rw [if_pos (chk1_ok hval hd), if_pos (by decide), rolO_1, ← e0, hoo]; rfl
        · unfold rlE; rw [if_pos (chk1_ok hval hd), if_pos (by decide), rolO_1, ← e0, hoo]; rfl
      · have e0 : adO (bizB we hs) day n = fwO (bizB we hs) (day + 1) n := by unfold adO; rw [if_pos hgt]
        rw [e0, fw_iff _ _ _ _ (by omega) (by omega) (by omega)] at ho
        obtain ⟨p1, p2, p3, p4⟩ := ho
        have hr : 0 ≤ r ∧ r ≤ 99999 := ⟨by omega, p3⟩
        have hd1 : 0 ≤ day + 1 ∧ day + 1 ≤ 99999 := ⟨by omega, by omega⟩
        have hb : ∀ w', Below w.heap.size w w' → BusS we A c hs r true 0 w' := fun w' hw => by have := bus_at A c r hval hr w' (h.below hw); rw [p1] at this; exact this
        have hh : ∀ w', Below w.heap.size w w' → BusS we A c hs day (bizB we hs day) 0 w' := fun w' hw => bus_at A c day hval hd w' (h.below hw)
        have hc : ∀ w', Below w.heap.size w w' → CntS we A c hs (day + 1) r (n - 1) 0 w' := fun w' hw => by
          refine count_any we A c hs (day + 1) r _ 0 w' (h.below hw) ?_ (chk_ok hval hd1 hr)
          rw [(coV_ok (chk_ok hval hd1 hr)).1]; omega
        have hk : ∀ w', Below w.heap.size w w' → AddS we A c hs r (-n) (adV we hs r (-n)) (adE we hs r (-n)) w' := fun w' hw => add_any we A c hs r (-n) _ _ w' (h.below hw) (by omega) (by omega) (hV.d.below hw) rfl rfl
        cases hp : bizB we hs day with
        | false =>
          rw [hp] at hh
          exact adds_pos1 we A c hs day n r _ _ w h hV (hg false hgr) ha hb hc hk hh hgt hn.2 hd.1 hd.2 (by omega)
        | true =>
          rw [hp] at hh
          have hs1 := cumI_succ (bizB we hs) day hd.1
          rw [hp] at hs1
          have hbk : adO (bizB we hs) r (-n) = some day := by
            unfold adO
            rw [if_neg (by omega), if_pos (by omega), show -(-n) = n by omega, bw_iff _ _ _ _ (by omega) (by omega) (by omega)]
            have e1 : r - 1 + 1 = r := by omega
            rw [e1]
            simp at hs1
            exact ⟨hp, hd.1, by omega, by omega⟩
          obtain ⟨v1, v2⟩ := ad_val hval hr ⟨by omega, by omega⟩ hbk
          rw [v1, v2] at hk
          exact adds_pos2 we A c hs day n r w h hV (hg false hgr) ha hb hc hk hh hgt hn.2 hd.1 hd.2 (by omega)
    · rw [ad_bad he] at ha
      exact adds_err we A c hs day n _ w h hV (hg false hgr) ha he
end Go.Proofs.YtgnmcjfocnnffaaDoor

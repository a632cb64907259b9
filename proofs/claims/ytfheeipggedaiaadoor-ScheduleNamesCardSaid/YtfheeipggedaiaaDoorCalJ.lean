/- Layer 4: the reference's walks: Roll, Add, Count, Business, and the bounds. -/
import Derived.Test.YtfheeipggedaiaaDoorCalI
namespace Go.Proofs.YtfheeipggedaiaaDoor
open Go Go.RowKit

section
variable (we : Int) (A : Option Addr) (c : Nat) (hs : List Int)
/-- The calls of the reference's functions, as the walks take them. -/
def WlkS (d s n v e : Int) (w : World) : Prop := Calls Tryd.prog 54 #[.agg #[.int .u8 we, .slice A hs.length c], .int .i64 d, .int .i64 s, .int .i64 n] w fun x w' => x = .returned (.tuple #[.int .i64 v, .int .i64 e]) ∧ Below w.heap.size w w'
def ValS (v : Bool) (w : World) : Prop := Calls Tryd.prog 35 #[.agg #[.int .u8 we, .slice A hs.length c]] w fun x w' => x = .returned (.bool v) ∧ Below w.heap.size w w'
def MonS (a b : Int) (r : Bool) (w : World) : Prop := Calls Tryd.prog 55 #[.int .i64 a, .int .i64 b] w fun x w' => x = .returned (.bool r) ∧ w = w'
def OpnS (d : Int) (b : Bool) (w : World) : Prop := Calls Tryd.prog 68 #[.agg #[.int .u8 we, .slice A hs.length c], .int .i64 d] w fun x w' => x = .returned (.bool b) ∧ Below w.heap.size w w'
def RRolS (d r v e : Int) (w : World) : Prop := Calls Tryd.prog 34 #[.agg #[.int .u8 we, .slice A hs.length c], .int .i64 d, .int .u8 r] w fun x w' => x = .returned (.tuple #[.int .i64 v, .int .i64 e]) ∧ Below w.heap.size w w'
end

set_option maxRecDepth 100000 in
set_option maxHeartbeats 1600000 in
theorem rr_bad (we : Int) (A : Option Addr) (c : Nat) (hs : List Int) (day : Int) (r : Int) (w : World) (h : CalIn w we A c hs) (hv : ∀ w', Below w.heap.size w w' → ValS we A c hs false w') :
    RRolS we A c hs day r 0 8 w := by
  have C1 := Lib.hid (CalAt.new (we := we) (c := c) h.rd)
  have B1 := Lib.hid (bel1 w (.cells #[.int .u8 we, .slice A hs.length c] 25))
  have c0 := C1.out.c0
  have c1 := C1.out.c1
  have HV : Hid (∀ w', Below w.heap.size w w' → Calls _ _ _ _ _) := hv
  clear hv
  clear h
  show Calls _ _ _ _ _
  go_enter Tryd.func34, Tryd.ntmps34
  go_wp2_with (first
    | (go_at_call 35; ((with_reducible refine (HV.out _ B1.out).mono ?_); rintro x w2 ⟨rfl, hb⟩; have B2 := Lib.hid (btC B1.out hb); have C2 := Lib.hid (C1.out.below hb); have k0 := C2.out.c0; have k1 := C2.out.c1; clear hb)))
  go_ret2
  exact ⟨rfl, B2.out⟩

set_option maxRecDepth 100000 in
set_option maxHeartbeats 1600000 in
theorem rr_day (we : Int) (A : Option Addr) (c : Nat) (hs : List Int) (day : Int) (r : Int) (w : World) (h : CalIn w we A c hs) (hv : ∀ w', Below w.heap.size w w' → ValS we A c hs true w') (hd : ∀ w, Calls Tryd.prog 36 #[.int .i64 day] w fun e w' => e = .returned (.bool false) ∧ w = w') :
    RRolS we A c hs day r 0 2 w := by
  have C1 := Lib.hid (CalAt.new (we := we) (c := c) h.rd)
  have B1 := Lib.hid (bel1 w (.cells #[.int .u8 we, .slice A hs.length c] 25))
  have c0 := C1.out.c0
  have c1 := C1.out.c1
  have HV : Hid (∀ w', Below w.heap.size w w' → Calls _ _ _ _ _) := hv
  clear hv
  have HD : Hid (∀ w, Calls _ _ _ _ _) := hd
  clear hd
  clear h
  show Calls _ _ _ _ _
  go_enter Tryd.func34, Tryd.ntmps34
  go_wp2_with (first
    | (go_at_call 35; ((with_reducible refine (HV.out _ B1.out).mono ?_); rintro x w2 ⟨rfl, hb⟩; have B2 := Lib.hid (btC B1.out hb); have C2 := Lib.hid (C1.out.below hb); have k0 := C2.out.c0; have k1 := C2.out.c1; clear hb))
    | (go_at_call 36; ((with_reducible refine (HD.out _).mono ?_); rintro x w' ⟨rfl, rfl⟩)))
  go_ret2
  exact ⟨rfl, B2.out⟩

set_option maxRecDepth 100000 in
set_option maxHeartbeats 1600000 in
theorem rr_rule (we : Int) (A : Option Addr) (c : Nat) (hs : List Int) (day : Int) (r : Int) (w : World) (h : CalIn w we A c hs) (hv : ∀ w', Below w.heap.size w w' → ValS we A c hs true w') (hd : ∀ w, Calls Tryd.prog 36 #[.int .i64 day] w fun e w' => e = .returned (.bool true) ∧ w = w') (hr : 4 < r) :
    RRolS we A c hs day r 0 2 w := by
  have C1 := Lib.hid (CalAt.new (we := we) (c := c) h.rd)
  have B1 := Lib.hid (bel1 w (.cells #[.int .u8 we, .slice A hs.length c] 25))
  have c0 := C1.out.c0
  have c1 := C1.out.c1
  have HV : Hid (∀ w', Below w.heap.size w w' → Calls _ _ _ _ _) := hv
  clear hv
  have HD : Hid (∀ w, Calls _ _ _ _ _) := hd
  clear hd
  clear h
  show Calls _ _ _ _ _
  go_enter Tryd.func34, Tryd.ntmps34
  go_wp2_with (first
    | (go_at_call 35; ((with_reducible refine (HV.out _ B1.out).mono ?_); rintro x w2 ⟨rfl, hb⟩; have B2 := Lib.hid (btC B1.out hb); have C2 := Lib.hid (C1.out.below hb); have k0 := C2.out.c0; have k1 := C2.out.c1; clear hb))
    | (go_at_call 36; ((with_reducible refine (HD.out _).mono ?_); rintro x w' ⟨rfl, rfl⟩)))
  go_ret2
  exact ⟨rfl, B2.out⟩

set_option maxRecDepth 100000 in
set_option maxHeartbeats 1600000 in
theorem rr_0 (we : Int) (A : Option Addr) (c : Nat) (hs : List Int) (day : Int) (v1 e1 v2 e2 : Int) (w : World) (h : CalIn w we A c hs) (hv : ∀ w', Below w.heap.size w w' → ValS we A c hs true w') (hd : ∀ w, Calls Tryd.prog 36 #[.int .i64 day] w fun e w' => e = .returned (.bool true) ∧ w = w') (hw1 : ∀ w', Below w.heap.size w w' → WlkS we A c hs day 1 1 v1 e1 w') (hw2 : ∀ w', Below w.heap.size w w' → WlkS we A c hs day (-1) 1 v2 e2 w') :
    RRolS we A c hs day 0 day 0 w := by
  have C1 := Lib.hid (CalAt.new (we := we) (c := c) h.rd)
  have B1 := Lib.hid (bel1 w (.cells #[.int .u8 we, .slice A hs.length c] 25))
  have c0 := C1.out.c0
  have c1 := C1.out.c1
  have HV : Hid (∀ w', Below w.heap.size w w' → Calls _ _ _ _ _) := hv
  clear hv
  have HD : Hid (∀ w, Calls _ _ _ _ _) := hd
  clear hd
  have HW1 : Hid (∀ w', Below w.heap.size w w' → Calls _ _ _ _ _) := hw1
  clear hw1
  have HW2 : Hid (∀ w', Below w.heap.size w w' → Calls _ _ _ _ _) := hw2
  clear hw2
  clear h
  show Calls _ _ _ _ _
  go_enter Tryd.func34, Tryd.ntmps34
  go_wp2_with (first
    | (go_at_call 35; ((with_reducible refine (HV.out _ B1.out).mono ?_); rintro x w2 ⟨rfl, hb⟩; have B2 := Lib.hid (btC B1.out hb); have C2 := Lib.hid (C1.out.below hb); have k0 := C2.out.c0; have k1 := C2.out.c1; clear hb))
    | (go_at_call 36; ((with_reducible refine (HD.out _).mono ?_); rintro x w' ⟨rfl, rfl⟩))
    | (go_at_call 54; ((with_reducible refine (HW1.out _ B2.out).mono ?_); rintro x w3 ⟨rfl, hb⟩; have B3 := Lib.hid (btC B2.out hb); have C3 := Lib.hid (C2.out.below hb); have l0 := C3.out.c0; have l1 := C3.out.c1; clear hb))
    | (go_at_call 54; ((with_reducible refine (HW2.out _ B3.out).mono ?_); rintro x w4 ⟨rfl, hb⟩; have B4 := Lib.hid (btC B3.out hb); clear hb)))
  go_ret2
  exact ⟨rfl, B4.out⟩

set_option maxRecDepth 100000 in
set_option maxHeartbeats 1600000 in
theorem rr_1 (we : Int) (A : Option Addr) (c : Nat) (hs : List Int) (day : Int) (v1 e1 v2 e2 : Int) (w : World) (h : CalIn w we A c hs) (hv : ∀ w', Below w.heap.size w w' → ValS we A c hs true w') (hd : ∀ w, Calls Tryd.prog 36 #[.int .i64 day] w fun e w' => e = .returned (.bool true) ∧ w = w') (hw1 : ∀ w', Below w.heap.size w w' → WlkS we A c hs day 1 1 v1 e1 w') (hw2 : ∀ w', Below w.heap.size w w' → WlkS we A c hs day (-1) 1 v2 e2 w') :
    RRolS we A c hs day 1 v1 e1 w := by
  have C1 := Lib.hid (CalAt.new (we := we) (c := c) h.rd)
  have B1 := Lib.hid (bel1 w (.cells #[.int .u8 we, .slice A hs.length c] 25))
  have c0 := C1.out.c0
  have c1 := C1.out.c1
  have HV : Hid (∀ w', Below w.heap.size w w' → Calls _ _ _ _ _) := hv
  clear hv
  have HD : Hid (∀ w, Calls _ _ _ _ _) := hd
  clear hd
  have HW1 : Hid (∀ w', Below w.heap.size w w' → Calls _ _ _ _ _) := hw1
  clear hw1
  have HW2 : Hid (∀ w', Below w.heap.size w w' → Calls _ _ _ _ _) := hw2
  clear hw2
  clear h
  show Calls _ _ _ _ _
  go_enter Tryd.func34, Tryd.ntmps34
  go_wp2_with (first
    | (go_at_call 35; ((with_reducible refine (HV.out _ B1.out).mono ?_); rintro x w2 ⟨rfl, hb⟩; have B2 := Lib.hid (btC B1.out hb); have C2 := Lib.hid (C1.out.below hb); have k0 := C2.out.c0; have k1 := C2.out.c1; clear hb))
    | (go_at_call 36; ((with_reducible refine (HD.out _).mono ?_); rintro x w' ⟨rfl, rfl⟩))
    | (go_at_call 54; ((with_reducible refine (HW1.out _ B2.out).mono ?_); rintro x w3 ⟨rfl, hb⟩; have B3 := Lib.hid (btC B2.out hb); have C3 := Lib.hid (C2.out.below hb); have l0 := C3.out.c0; have l1 := C3.out.c1; clear hb))
    | (go_at_call 54; ((with_reducible refine (HW2.out _ B3.out).mono ?_); rintro x w4 ⟨rfl, hb⟩; have B4 := Lib.hid (btC B3.out hb); clear hb)))
  go_ret2
  exact ⟨rfl, B4.out⟩

set_option maxRecDepth 100000 in
set_option maxHeartbeats 1600000 in
theorem rr_2 (we : Int) (A : Option Addr) (c : Nat) (hs : List Int) (day : Int) (v1 e1 v2 e2 : Int) (w : World) (h : CalIn w we A c hs) (hv : ∀ w', Below w.heap.size w w' → ValS we A c hs true w') (hd : ∀ w, Calls Tryd.prog 36 #[.int .i64 day] w fun e w' => e = .returned (.bool true) ∧ w = w') (hw1 : ∀ w', Below w.heap.size w w' → WlkS we A c hs day 1 1 v1 e1 w') (hw2 : ∀ w', Below w.heap.size w w' → WlkS we A c hs day (-1) 1 v2 e2 w') :
    RRolS we A c hs day 2 v2 e2 w := by
  have C1 := Lib.hid (CalAt.new (we := we) (c := c) h.rd)
  have B1 := Lib.hid (bel1 w (.cells #[.int .u8 we, .slice A hs.length c] 25))
  have c0 := C1.out.c0
  have c1 := C1.out.c1
  have HV : Hid (∀ w', Below w.heap.size w w' → Calls _ _ _ _ _) := hv
  clear hv
  have HD : Hid (∀ w, Calls _ _ _ _ _) := hd
  clear hd
  have HW1 : Hid (∀ w', Below w.heap.size w w' → Calls _ _ _ _ _) := hw1
  clear hw1
  have HW2 : Hid (∀ w', Below w.heap.size w w' → Calls _ _ _ _ _) := hw2
  clear hw2
  clear h
  show Calls _ _ _ _ _
  go_enter Tryd.func34, Tryd.ntmps34
  go_wp2_with (first
    | (go_at_call 35; ((with_reducible refine (HV.out _ B1.out).mono ?_); rintro x w2 ⟨rfl, hb⟩; have B2 := Lib.hid (btC B1.out hb); have C2 := Lib.hid (C1.out.below hb); have k0 := C2.out.c0; have k1 := C2.out.c1; clear hb))
    | (go_at_call 36; ((with_reducible refine (HD.out _).mono ?_); rintro x w' ⟨rfl, rfl⟩))
    | (go_at_call 54; ((with_reducible refine (HW1.out _ B2.out).mono ?_); rintro x w3 ⟨rfl, hb⟩; have B3 := Lib.hid (btC B2.out hb); have C3 := Lib.hid (C2.out.below hb); have l0 := C3.out.c0; have l1 := C3.out.c1; clear hb))
    | (go_at_call 54; ((with_reducible refine (HW2.out _ B3.out).mono ?_); rintro x w4 ⟨rfl, hb⟩; have B4 := Lib.hid (btC B3.out hb); clear hb)))
  go_ret2
  exact ⟨rfl, B4.out⟩

set_option maxRecDepth 100000 in
set_option maxHeartbeats 1600000 in
theorem rr_3a (we : Int) (A : Option Addr) (c : Nat) (hs : List Int) (day : Int) (v2 e2 : Int) (w : World) (h : CalIn w we A c hs) (hv : ∀ w', Below w.heap.size w w' → ValS we A c hs true w') (hd : ∀ w, Calls Tryd.prog 36 #[.int .i64 day] w fun e w' => e = .returned (.bool true) ∧ w = w') (hw1 : ∀ w', Below w.heap.size w w' → WlkS we A c hs day 1 1 0 40 w') (hw2 : ∀ w', Below w.heap.size w w' → WlkS we A c hs day (-1) 1 v2 e2 w') :
    RRolS we A c hs day 3 v2 e2 w := by
  have C1 := Lib.hid (CalAt.new (we := we) (c := c) h.rd)
  have B1 := Lib.hid (bel1 w (.cells #[.int .u8 we, .slice A hs.length c] 25))
  have c0 := C1.out.c0
  have c1 := C1.out.c1
  have HV : Hid (∀ w', Below w.heap.size w w' → Calls _ _ _ _ _) := hv
  clear hv
  have HD : Hid (∀ w, Calls _ _ _ _ _) := hd
  clear hd
  have HW1 : Hid (∀ w', Below w.heap.size w w' → Calls _ _ _ _ _) := hw1
  clear hw1
  have HW2 : Hid (∀ w', Below w.heap.size w w' → Calls _ _ _ _ _) := hw2
  clear hw2
  clear h
  show Calls _ _ _ _ _
  go_enter Tryd.func34, Tryd.ntmps34
  go_wp2_with (first
    | (go_at_call 35; ((with_reducible refine (HV.out _ B1.out).mono ?_); rintro x w2 ⟨rfl, hb⟩; have B2 := Lib.hid (btC B1.out hb); have C2 := Lib.hid (C1.out.below hb); have k0 := C2.out.c0; have k1 := C2.out.c1; clear hb))
    | (go_at_call 36; ((with_reducible refine (HD.out _).mono ?_); rintro x w' ⟨rfl, rfl⟩))
    | (go_at_call 54; ((with_reducible refine (HW1.out _ B2.out).mono ?_); rintro x w3 ⟨rfl, hb⟩; have B3 := Lib.hid (btC B2.out hb); have C3 := Lib.hid (C2.out.below hb); have l0 := C3.out.c0; have l1 := C3.out.c1; clear hb))
    | (go_at_call 54; ((with_reducible refine (HW2.out _ B3.out).mono ?_); rintro x w4 ⟨rfl, hb⟩; have B4 := Lib.hid (btC B3.out hb); clear hb)))
  go_ret2
  exact ⟨rfl, B4.out⟩

set_option maxRecDepth 100000 in
set_option maxHeartbeats 1600000 in
theorem rr_3b (we : Int) (A : Option Addr) (c : Nat) (hs : List Int) (day : Int) (t v2 e2 : Int) (w : World) (h : CalIn w we A c hs) (hv : ∀ w', Below w.heap.size w w' → ValS we A c hs true w') (hd : ∀ w, Calls Tryd.prog 36 #[.int .i64 day] w fun e w' => e = .returned (.bool true) ∧ w = w') (hw1 : ∀ w', Below w.heap.size w w' → WlkS we A c hs day 1 1 t 0 w') (hw2 : ∀ w', Below w.heap.size w w' → WlkS we A c hs day (-1) 1 v2 e2 w') (hm : ∀ w, MonS t day false w) :
    RRolS we A c hs day 3 v2 e2 w := by
  have C1 := Lib.hid (CalAt.new (we := we) (c := c) h.rd)
  have B1 := Lib.hid (bel1 w (.cells #[.int .u8 we, .slice A hs.length c] 25))
  have c0 := C1.out.c0
  have c1 := C1.out.c1
  have HV : Hid (∀ w', Below w.heap.size w w' → Calls _ _ _ _ _) := hv
  clear hv
  have HD : Hid (∀ w, Calls _ _ _ _ _) := hd
  clear hd
  have HW1 : Hid (∀ w', Below w.heap.size w w' → Calls _ _ _ _ _) := hw1
  clear hw1
  have HW2 : Hid (∀ w', Below w.heap.size w w' → Calls _ _ _ _ _) := hw2
  clear hw2
  have HM : Hid (∀ w, Calls _ _ _ _ _) := hm
  clear hm
  clear h
  show Calls _ _ _ _ _
  go_enter Tryd.func34, Tryd.ntmps34
  go_wp2_with (first
    | (go_at_call 35; ((with_reducible refine (HV.out _ B1.out).mono ?_); rintro x w2 ⟨rfl, hb⟩; have B2 := Lib.hid (btC B1.out hb); have C2 := Lib.hid (C1.out.below hb); have k0 := C2.out.c0; have k1 := C2.out.c1; clear hb))
    | (go_at_call 36; ((with_reducible refine (HD.out _).mono ?_); rintro x w' ⟨rfl, rfl⟩))
    | (go_at_call 54; ((with_reducible refine (HW1.out _ B2.out).mono ?_); rintro x w3 ⟨rfl, hb⟩; have B3 := Lib.hid (btC B2.out hb); have C3 := Lib.hid (C2.out.below hb); have l0 := C3.out.c0; have l1 := C3.out.c1; clear hb))
    | (go_at_call 54; ((with_reducible refine (HW2.out _ B3.out).mono ?_); rintro x w4 ⟨rfl, hb⟩; have B4 := Lib.hid (btC B3.out hb); clear hb))
    | (go_at_call 55; ((with_reducible refine (HM.out _).mono ?_); rintro x w' ⟨rfl, rfl⟩)))
  go_ret2
  exact ⟨rfl, B4.out⟩

set_option maxRecDepth 100000 in
set_option maxHeartbeats 1600000 in
theorem rr_3c (we : Int) (A : Option Addr) (c : Nat) (hs : List Int) (day : Int) (t v2 e2 : Int) (w : World) (h : CalIn w we A c hs) (hv : ∀ w', Below w.heap.size w w' → ValS we A c hs true w') (hd : ∀ w, Calls Tryd.prog 36 #[.int .i64 day] w fun e w' => e = .returned (.bool true) ∧ w = w') (hw1 : ∀ w', Below w.heap.size w w' → WlkS we A c hs day 1 1 t 0 w') (hw2 : ∀ w', Below w.heap.size w w' → WlkS we A c hs day (-1) 1 v2 e2 w') (hm : ∀ w, MonS t day true w) :
    RRolS we A c hs day 3 t 0 w := by
  have C1 := Lib.hid (CalAt.new (we := we) (c := c) h.rd)
  have B1 := Lib.hid (bel1 w (.cells #[.int .u8 we, .slice A hs.length c] 25))
  have c0 := C1.out.c0
  have c1 := C1.out.c1
  have HV : Hid (∀ w', Below w.heap.size w w' → Calls _ _ _ _ _) := hv
  clear hv
  have HD : Hid (∀ w, Calls _ _ _ _ _) := hd
  clear hd
  have HW1 : Hid (∀ w', Below w.heap.size w w' → Calls _ _ _ _ _) := hw1
  clear hw1
  have HW2 : Hid (∀ w', Below w.heap.size w w' → Calls _ _ _ _ _) := hw2
  clear hw2
  have HM : Hid (∀ w, Calls _ _ _ _ _) := hm
  clear hm
  clear h
  show Calls _ _ _ _ _
  go_enter Tryd.func34, Tryd.ntmps34
  go_wp2_with (first
    | (go_at_call 35; ((with_reducible refine (HV.out _ B1.out).mono ?_); rintro x w2 ⟨rfl, hb⟩; have B2 := Lib.hid (btC B1.out hb); have C2 := Lib.hid (C1.out.below hb); have k0 := C2.out.c0; have k1 := C2.out.c1; clear hb))
    | (go_at_call 36; ((with_reducible refine (HD.out _).mono ?_); rintro x w' ⟨rfl, rfl⟩))
    | (go_at_call 54; ((with_reducible refine (HW1.out _ B2.out).mono ?_); rintro x w3 ⟨rfl, hb⟩; have B3 := Lib.hid (btC B2.out hb); have C3 := Lib.hid (C2.out.below hb); have l0 := C3.out.c0; have l1 := C3.out.c1; clear hb))
    | (go_at_call 54; ((with_reducible refine (HW2.out _ B3.out).mono ?_); rintro x w4 ⟨rfl, hb⟩; have B4 := Lib.hid (btC B3.out hb); clear hb))
    | (go_at_call 55; ((with_reducible refine (HM.out _).mono ?_); rintro x w' ⟨rfl, rfl⟩)))
  go_ret2
  exact ⟨rfl, B4.out⟩

set_option maxRecDepth 100000 in
set_option maxHeartbeats 1600000 in
theorem rr_4a (we : Int) (A : Option Addr) (c : Nat) (hs : List Int) (day : Int) (v1 e1 : Int) (w : World) (h : CalIn w we A c hs) (hv : ∀ w', Below w.heap.size w w' → ValS we A c hs true w') (hd : ∀ w, Calls Tryd.prog 36 #[.int .i64 day] w fun e w' => e = .returned (.bool true) ∧ w = w') (hw1 : ∀ w', Below w.heap.size w w' → WlkS we A c hs day 1 1 v1 e1 w') (hw2 : ∀ w', Below w.heap.size w w' → WlkS we A c hs day (-1) 1 0 40 w') :
    RRolS we A c hs day 4 v1 e1 w := by
  have C1 := Lib.hid (CalAt.new (we := we) (c := c) h.rd)
  have B1 := Lib.hid (bel1 w (.cells #[.int .u8 we, .slice A hs.length c] 25))
  have c0 := C1.out.c0
  have c1 := C1.out.c1
  have HV : Hid (∀ w', Below w.heap.size w w' → Calls _ _ _ _ _) := hv
  clear hv
  have HD : Hid (∀ w, Calls _ _ _ _ _) := hd
  clear hd
  have HW1 : Hid (∀ w', Below w.heap.size w w' → Calls _ _ _ _ _) := hw1
  clear hw1
  have HW2 : Hid (∀ w', Below w.heap.size w w' → Calls _ _ _ _ _) := hw2
  clear hw2
  clear h
  show Calls _ _ _ _ _
  go_enter Tryd.func34, Tryd.ntmps34
  go_wp2_with (first
    | (go_at_call 35; ((with_reducible refine (HV.out _ B1.out).mono ?_); rintro x w2 ⟨rfl, hb⟩; have B2 := Lib.hid (btC B1.out hb); have C2 := Lib.hid (C1.out.below hb); have k0 := C2.out.c0; have k1 := C2.out.c1; clear hb))
    | (go_at_call 36; ((with_reducible refine (HD.out _).mono ?_); rintro x w' ⟨rfl, rfl⟩))
    | (go_at_call 54; ((with_reducible refine (HW1.out _ B2.out).mono ?_); rintro x w3 ⟨rfl, hb⟩; have B3 := Lib.hid (btC B2.out hb); have C3 := Lib.hid (C2.out.below hb); have l0 := C3.out.c0; have l1 := C3.out.c1; clear hb))
    | (go_at_call 54; ((with_reducible refine (HW2.out _ B3.out).mono ?_); rintro x w4 ⟨rfl, hb⟩; have B4 := Lib.hid (btC B3.out hb); clear hb)))
  go_ret2
  exact ⟨rfl, B4.out⟩

set_option maxRecDepth 100000 in
set_option maxHeartbeats 1600000 in
theorem rr_4b (we : Int) (A : Option Addr) (c : Nat) (hs : List Int) (day : Int) (t v1 e1 : Int) (w : World) (h : CalIn w we A c hs) (hv : ∀ w', Below w.heap.size w w' → ValS we A c hs true w') (hd : ∀ w, Calls Tryd.prog 36 #[.int .i64 day] w fun e w' => e = .returned (.bool true) ∧ w = w') (hw1 : ∀ w', Below w.heap.size w w' → WlkS we A c hs day 1 1 v1 e1 w') (hw2 : ∀ w', Below w.heap.size w w' → WlkS we A c hs day (-1) 1 t 0 w') (hm : ∀ w, MonS t day false w) :
    RRolS we A c hs day 4 v1 e1 w := by
  have C1 := Lib.hid (CalAt.new (we := we) (c := c) h.rd)
  have B1 := Lib.hid (bel1 w (.cells #[.int .u8 we, .slice A hs.length c] 25))
  have c0 := C1.out.c0
  have c1 := C1.out.c1
  have HV : Hid (∀ w', Below w.heap.size w w' → Calls _ _ _ _ _) := hv
  clear hv
  have HD : Hid (∀ w, Calls _ _ _ _ _) := hd
  clear hd
  have HW1 : Hid (∀ w', Below w.heap.size w w' → Calls _ _ _ _ _) := hw1
  clear hw1
  have HW2 : Hid (∀ w', Below w.heap.size w w' → Calls _ _ _ _ _) := hw2
  clear hw2
  have HM : Hid (∀ w, Calls _ _ _ _ _) := hm
  clear hm
  clear h
  show Calls _ _ _ _ _
  go_enter Tryd.func34, Tryd.ntmps34
  go_wp2_with (first
    | (go_at_call 35; ((with_reducible refine (HV.out _ B1.out).mono ?_); rintro x w2 ⟨rfl, hb⟩; have B2 := Lib.hid (btC B1.out hb); have C2 := Lib.hid (C1.out.below hb); have k0 := C2.out.c0; have k1 := C2.out.c1; clear hb))
    | (go_at_call 36; ((with_reducible refine (HD.out _).mono ?_); rintro x w' ⟨rfl, rfl⟩))
    | (go_at_call 54; ((with_reducible refine (HW1.out _ B2.out).mono ?_); rintro x w3 ⟨rfl, hb⟩; have B3 := Lib.hid (btC B2.out hb); have C3 := Lib.hid (C2.out.below hb); have l0 := C3.out.c0; have l1 := C3.out.c1; clear hb))
    | (go_at_call 54; ((with_reducible refine (HW2.out _ B3.out).mono ?_); rintro x w4 ⟨rfl, hb⟩; have B4 := Lib.hid (btC B3.out hb); clear hb))
    | (go_at_call 55; ((with_reducible refine (HM.out _).mono ?_); rintro x w' ⟨rfl, rfl⟩)))
  go_ret2
  exact ⟨rfl, B4.out⟩

set_option maxRecDepth 100000 in
set_option maxHeartbeats 1600000 in
theorem rr_4c (we : Int) (A : Option Addr) (c : Nat) (hs : List Int) (day : Int) (t v1 e1 : Int) (w : World) (h : CalIn w we A c hs) (hv : ∀ w', Below w.heap.size w w' → ValS we A c hs true w') (hd : ∀ w, Calls Tryd.prog 36 #[.int .i64 day] w fun e w' => e = .returned (.bool true) ∧ w = w') (hw1 : ∀ w', Below w.heap.size w w' → WlkS we A c hs day 1 1 v1 e1 w') (hw2 : ∀ w', Below w.heap.size w w' → WlkS we A c hs day (-1) 1 t 0 w') (hm : ∀ w, MonS t day true w) :
    RRolS we A c hs day 4 t 0 w := by
  have C1 := Lib.hid (CalAt.new (we := we) (c := c) h.rd)
  have B1 := Lib.hid (bel1 w (.cells #[.int .u8 we, .slice A hs.length c] 25))
  have c0 := C1.out.c0
  have c1 := C1.out.c1
  have HV : Hid (∀ w', Below w.heap.size w w' → Calls _ _ _ _ _) := hv
  clear hv
  have HD : Hid (∀ w, Calls _ _ _ _ _) := hd
  clear hd
  have HW1 : Hid (∀ w', Below w.heap.size w w' → Calls _ _ _ _ _) := hw1
  clear hw1
  have HW2 : Hid (∀ w', Below w.heap.size w w' → Calls _ _ _ _ _) := hw2
  clear hw2
  have HM : Hid (∀ w, Calls _ _ _ _ _) := hm
  clear hm
  clear h
  show Calls _ _ _ _ _
  go_enter Tryd.func34, Tryd.ntmps34
  go_wp2_with (first
    | (go_at_call 35; ((with_reducible refine (HV.out _ B1.out).mono ?_); rintro x w2 ⟨rfl, hb⟩; have B2 := Lib.hid (btC B1.out hb); have C2 := Lib.hid (C1.out.below hb); have k0 := C2.out.c0; have k1 := C2.out.c1; clear hb))
    | (go_at_call 36; ((with_reducible refine (HD.out _).mono ?_); rintro x w' ⟨rfl, rfl⟩))
    | (go_at_call 54; ((with_reducible refine (HW1.out _ B2.out).mono ?_); rintro x w3 ⟨rfl, hb⟩; have B3 := Lib.hid (btC B2.out hb); have C3 := Lib.hid (C2.out.below hb); have l0 := C3.out.c0; have l1 := C3.out.c1; clear hb))
    | (go_at_call 54; ((with_reducible refine (HW2.out _ B3.out).mono ?_); rintro x w4 ⟨rfl, hb⟩; have B4 := Lib.hid (btC B3.out hb); clear hb))
    | (go_at_call 55; ((with_reducible refine (HM.out _).mono ?_); rintro x w' ⟨rfl, rfl⟩)))
  go_ret2
  exact ⟨rfl, B4.out⟩


theorem chk_bad {we : Int} {hs : List Int} (ds : List Int) (h : valB we hs = false) : chkE we hs ds = 8 := by unfold chkE; rw [h]; rfl
theorem chk_oneC {we : Int} {hs : List Int} (d : Int) (h : valB we hs = true) : chkE we hs [d] = if dayB d then 0 else 2 := by unfold chkE; rw [h]; simp
theorem refRoll_any (we : Int) (A : Option Addr) (c : Nat) (hs : List Int) (S : Int → Bool) (day r v e : Int) (w : World) (h : CalIn w we A c hs) (r0 : 0 ≤ r) (hS : 0 ≤ day → SmIs day S) (h1 : rlV S we hs day r = v) (h2 : rlE S we hs day r = e) : RRolS we A c hs day r v e w := by
  unfold rlV at h1
  unfold rlE at h2
  have hv : ∀ b, valB we hs = b → ∀ w', Below w.heap.size w w' → ValS we A c hs b w' := fun b hb w' hw => valid_any we A c hs b w' (h.below hw) hb
  cases hval : valB we hs with
  | false =>
    rw [chk_bad _ hval, if_neg (by decide)] at h1 h2
    subst h1 h2
    exact rr_bad we A c hs day r w h (hv false hval)
  | true =>
    rw [chk_oneC _ hval] at h1 h2
    cases hd : dayB day with
    | false =>
      rw [hd, if_neg (by decide)] at h1 h2
      subst h1 h2
      exact rr_day we A c hs day r w h (hv true hval) (fun w => dayR_any day false hd w)
    | true =>
      rw [hd, if_pos (by decide)] at h1 h2
      have hd' := fun w => dayR_any day true hd w
      by_cases hr : r ≤ 4
      · rw [if_pos hr] at h1 h2
        obtain ⟨d0, d1⟩ := (dayB_iff day).1 hd
        have hf : ∀ w', Below w.heap.size w w' → WlkS we A c hs day 1 1 (nV (fwO (bizB we hs) day 1)) (nE (fwO (bizB we hs) day 1)) w' := fun w' hb => walk_any we A c hs 1 day 1 _ _ _ w' (h.below hb) hval (At.fwd day d0 (by omega)) (by omega) (by omega) rfl rfl
        have hg : ∀ w', Below w.heap.size w w' → WlkS we A c hs day (-1) 1 (nV (bwO (bizB we hs) day 1)) (nE (bwO (bizB we hs) day 1)) w' := fun w' hb => walk_any we A c hs (-1) day 1 _ _ _ w' (h.below hb) hval (At.bwd day (by omega) d1) (by omega) (by omega) rfl rfl
        have hm : ∀ t b, 0 ≤ t → t ≤ 99999 → S t = b → ∀ w, MonS t day b w := fun t b t0 t1 ht w => month_any t day S b (hS d0) t0 t1 d0 d1 ht w
        have hr : r = 0 ∨ r = 1 ∨ r = 2 ∨ r = 3 ∨ r = 4 := by omega
        rcases hr with rfl | rfl | rfl | rfl | rfl
        · simp only [rolO, if_true] at h1 h2
          obtain rfl : day = v := h1
          obtain rfl : 0 = e := h2
          exact rr_0 we A c hs day _ _ _ _ w h (hv true hval) hd' hf hg
        · rw [show rolO S (bizB we hs) 1 day = fwO (bizB we hs) day 1 from rfl] at h1 h2
          rw [← h1, ← h2]
          exact rr_1 we A c hs day _ _ _ _ w h (hv true hval) hd' hf hg
        · rw [show rolO S (bizB we hs) 2 day = bwO (bizB we hs) day 1 from rfl] at h1 h2
          rw [← h1, ← h2]
          exact rr_2 we A c hs day _ _ _ _ w h (hv true hval) hd' hf hg
        · rw [show rolO S (bizB we hs) 3 day = keepO S (fwO (bizB we hs) day 1) (bwO (bizB we hs) day 1) from rfl] at h1 h2
          rw [← h1, ← h2]
          rcases keep_cases S (fwO (bizB we hs) day 1) (bwO (bizB we hs) day 1) (fun t ht => fwO_day d0 (by omega) ht) with ⟨k1, k2, k3⟩ | ⟨k1, k2, k3, k4, k5⟩ | ⟨k1, k2, k3, k4, k5⟩
          · rw [k1, k2] at hf; rw [k3]; exact rr_3a we A c hs day _ _ w h (hv true hval) hd' hf hg
          · rw [k1] at hf; rw [k5]; exact rr_3b we A c hs day _ _ _ w h (hv true hval) hd' hf hg (hm _ _ k2 k3 k4)
          · rw [k1] at hf; rw [k5, k1]; exact rr_3c we A c hs day _ _ _ w h (hv true hval) hd' hf hg (hm _ _ k2 k3 k4)
        · rw [show rolO S (bizB we hs) 4 day = keepO S (bwO (bizB we hs) day 1) (fwO (bizB we hs) day 1) from rfl] at h1 h2
          rw [← h1, ← h2]
          rcases keep_cases S (bwO (bizB we hs) day 1) (fwO (bizB we hs) day 1) (fun t ht => bwO_day (by omega) d1 ht) with ⟨k1, k2, k3⟩ | ⟨k1, k2, k3, k4, k5⟩ | ⟨k1, k2, k3, k4, k5⟩
          · rw [k1, k2] at hg; rw [k3]; exact rr_4a we A c hs day _ _ w h (hv true hval) hd' hf hg
          · rw [k1] at hg; rw [k5]; exact rr_4b we A c hs day _ _ _ w h (hv true hval) hd' hf hg (hm _ _ k2 k3 k4)
          · rw [k1] at hg; rw [k5, k1]; exact rr_4c we A c hs day _ _ _ w h (hv true hval) hd' hf hg (hm _ _ k2 k3 k4)
      · rw [if_neg hr] at h1 h2
        subst h1 h2
        exact rr_rule we A c hs day r w h (hv true hval) hd' (by omega)

end Go.Proofs.YtfheeipggedaiaaDoor

/- Layer 4: the reference's Business. -/
import Derived.Test.YtgnmcjfocnnffaaCalJ
namespace Go.Proofs.Ytgnmcjfocnnffaa
open Go Go.RowKit

def RBusS (we : Int) (A : Option Addr) (c : Nat) (hs : List Int) (d : Int) (b : Bool) (e : Int) (w : World) : Prop := Calls Try.prog 6 #[.agg #[.int .u8 we, .slice A hs.length c], .int .i64 d] w fun x w' => x = .returned (.tuple #[.bool b, .int .i64 e]) ∧ Below w.heap.size w w'
set_option maxRecDepth 100000 in
set_option maxHeartbeats 1600000 in
theorem rb_bad (we : Int) (A : Option Addr) (c : Nat) (hs : List Int) (d : Int) (w : World) (h : CalIn w we A c hs) (hv : ∀ w', Below w.heap.size w w' → ValS we A c hs false w') : RBusS we A c hs d false 8 w := by
  have C1 := Lib.hid (CalAt.new (we := we) (c := c) h.rd)
  have B1 := Lib.hid (bel1 w (.cells #[.int .u8 we, .slice A hs.length c] 24))
  have c0 := C1.out.c0
  have c1 := C1.out.c1
  have HV : Hid (∀ w', Below w.heap.size w w' → Calls _ _ _ _ _) := hv
  clear h hv
  show Calls _ _ _ _ _
  go_enter Try.func6, Try.ntmps6
  go_wp2_with (go_at_call 11; ((with_reducible refine (HV.out _ B1.out).mono ?_); rintro x w2 ⟨rfl, hb⟩; have B2 := Lib.hid (bt B1.out hb); have C2 := Lib.hid (C1.out.below hb); have k0 := C2.out.c0; have k1 := C2.out.c1; clear hb))
  go_ret2
  exact ⟨rfl, B2.out⟩
set_option maxRecDepth 100000 in
set_option maxHeartbeats 1600000 in
theorem rb_day (we : Int) (A : Option Addr) (c : Nat) (hs : List Int) (d : Int) (w : World) (h : CalIn w we A c hs) (hv : ∀ w', Below w.heap.size w w' → ValS we A c hs true w') (hd : ∀ w, Calls Try.prog 14 #[.int .i64 d] w fun e w' => e = .returned (.bool false) ∧ w = w') : RBusS we A c hs d false 2 w := by
  have C1 := Lib.hid (CalAt.new (we := we) (c := c) h.rd)
  have B1 := Lib.hid (bel1 w (.cells #[.int .u8 we, .slice A hs.length c] 24))
  have c0 := C1.out.c0
  have c1 := C1.out.c1
  have HV : Hid (∀ w', Below w.heap.size w w' → Calls _ _ _ _ _) := hv
  have HD := Lib.hid hd
  clear h hv hd
  show Calls _ _ _ _ _
  go_enter Try.func6, Try.ntmps6
  go_wp2_with (first
    | (go_at_call 11; ((with_reducible refine (HV.out _ B1.out).mono ?_); rintro x w2 ⟨rfl, hb⟩; have B2 := Lib.hid (bt B1.out hb); have C2 := Lib.hid (C1.out.below hb); have k0 := C2.out.c0; have k1 := C2.out.c1; clear hb))
    | (go_at_call 14; ((with_reducible refine (HD.out _).mono ?_); rintro x w3 ⟨rfl, rfl⟩)))
  go_ret2
  exact ⟨rfl, B2.out⟩
set_option maxRecDepth 100000 in
set_option maxHeartbeats 1600000 in
theorem rb_ok (we : Int) (A : Option Addr) (c : Nat) (hs : List Int) (d : Int) (b : Bool) (w : World) (h : CalIn w we A c hs) (hv : ∀ w', Below w.heap.size w w' → ValS we A c hs true w') (hd : ∀ w, Calls Try.prog 14 #[.int .i64 d] w fun e w' => e = .returned (.bool true) ∧ w = w') (ho : ∀ w', Below w.heap.size w w' → OpnS we A c hs d b w') : RBusS we A c hs d b 0 w := by
  have C1 := Lib.hid (CalAt.new (we := we) (c := c) h.rd)
  have B1 := Lib.hid (bel1 w (.cells #[.int .u8 we, .slice A hs.length c] 24))
  have c0 := C1.out.c0
  have c1 := C1.out.c1
  have HV : Hid (∀ w', Below w.heap.size w w' → Calls _ _ _ _ _) := hv
  have HO : Hid (∀ w', Below w.heap.size w w' → Calls _ _ _ _ _) := ho
  have HD := Lib.hid hd
  clear h hv hd ho
  show Calls _ _ _ _ _
  go_enter Try.func6, Try.ntmps6
  go_wp2_with (first
    | (go_at_call 11; ((with_reducible refine (HV.out _ B1.out).mono ?_); rintro x w2 ⟨rfl, hb⟩; have B2 := Lib.hid (bt B1.out hb); have C2 := Lib.hid (C1.out.below hb); have k0 := C2.out.c0; have k1 := C2.out.c1; clear hb))
    | (go_at_call 14; ((with_reducible refine (HD.out _).mono ?_); rintro x w3 ⟨rfl, rfl⟩))
    | (go_at_call 15; ((with_reducible refine (HO.out _ B2.out).mono ?_); rintro x w4 ⟨rfl, hb⟩; have B4 := Lib.hid (bt B2.out hb); clear hb)))
  go_ret2
  exact ⟨rfl, B4.out⟩
theorem refBus_any (we : Int) (A : Option Addr) (c : Nat) (hs : List Int) (d : Int) (b : Bool) (e : Int) (w : World) (h : CalIn w we A c hs) (h1 : chkE we hs [d] = e) (hb : (e = 0 ∧ bizB we hs d = b) ∨ (e ≠ 0 ∧ b = false)) : RBusS we A c hs d b e w := by
  have hV : ∀ v, valB we hs = v → ∀ w', Below w.heap.size w w' → ValS we A c hs v w' := fun v hv w' hw => valid_any we A c hs v w' (h.below hw) hv
  cases v1 : valB we hs with
  | false =>
    rw [chk_bad [d] v1] at h1
    subst h1
    rcases hb with ⟨h0, _⟩ | ⟨_, rfl⟩
    · cases h0
    · exact rb_bad we A c hs d w h (hV false v1)
  | true =>
    rw [chk_one d v1] at h1
    cases hd : dayB d with
    | false =>
      rw [hd] at h1
      subst h1
      rcases hb with ⟨h0, _⟩ | ⟨_, rfl⟩
      · cases h0
      · exact rb_day we A c hs d w h (hV true v1) (dayR_any d false hd)
    | true =>
      rw [hd] at h1
      subst h1
      rcases hb with ⟨_, hb⟩ | ⟨h0, _⟩
      · obtain ⟨d0, d1⟩ := (dayB_iff d).1 hd
        exact rb_ok we A c hs d b w h (hV true v1) (dayR_any d true hd) (fun w' hw => open_any we A c hs d b w' (h.below hw) v1 d0 d1 hb)
      · exact absurd rfl h0
end Go.Proofs.Ytgnmcjfocnnffaa

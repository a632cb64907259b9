/- The walks of the laws CalendarRolls and CalendarCounts. -/
import Derived.Test.YtgnmcjfocnnffaaDoorCalK
namespace Go.Proofs.YtgnmcjfocnnffaaDoor
open Go Go.RowKit

theorem smIs_any (day : Int) : ∃ S, (0 ≤ day → SmIs day S) := by
  by_cases h : 0 ≤ day
  · obtain ⟨S, hS⟩ := smIs_ex day h
    exact ⟨S, fun _ => hS⟩
  · exact ⟨fun _ => true, fun h' => absurd h' h⟩

set_option maxRecDepth 100000 in
set_option maxHeartbeats 1600000 in
theorem rolls_law (we : Int) (A : Option Addr) (c : Nat) (hs : List Int) (day r : Int) (w : World) (h : CalIn w we A c hs) (r0 : 0 ≤ r) (hV : VarD w) :
    Calls Tryd.prog 4 #[.agg #[.int .u8 we, .slice A hs.length c], .int .i64 day, .int .u8 r] w fun e w' => e = .returned (.bool true) ∧ Below w.heap.size w w' := by
  have C1 := Lib.hid (CalAt.new (we := we) (c := c) h.rd)
  have B1 := Lib.hid (bel1 w (.cells #[.int .u8 we, .slice A hs.length c] 24))
  have c0 := C1.out.c0
  have c1 := C1.out.c1
  obtain ⟨S, hS⟩ := smIs_any day
  obtain ⟨v, hv⟩ : ∃ v, rlV S we hs day r = v := ⟨_, rfl⟩
  obtain ⟨g, hg⟩ : ∃ g, rlE S we hs day r = g := ⟨_, rfl⟩
  have HR : Hid (∀ w', Below w.heap.size w w' → Calls _ _ _ _ _) := fun w' hb => roll_any we A c hs S day r v g w' (h.below hb) r0 hS (hV.below hb) hv hg
  have HF : Hid (∀ w', Below w.heap.size w w' → Calls _ _ _ _ _) := fun w' hb => refRoll_any we A c hs S day r v g w' (h.below hb) r0 hS hv hg
  have HG : Hid (∀ b, grtB hs = b → ∀ w', Below w.heap.size w w' → Calls Tryd.prog 19 #[.agg #[.int .u8 we, .slice A hs.length c]] w' fun x w2 => x = .returned (.bool b) ∧ Below w'.heap.size w' w2) := fun b hb' w' hb => great_any we A c hs b w' (h.below hb) hb'
  clear h hV hv hg hS
  cases hgr : grtB hs with
  | true =>
    have HG' := Lib.hid (HG.out true hgr)
    clear hgr HG
    go_enter Tryd.func4, Tryd.ntmps4
    go_wp2_with (go_at_call 19; ((with_reducible refine (HG'.out _ B1.out).mono ?_); rintro x w2 ⟨rfl, hb⟩; have B2 := Lib.hid (bt B1.out hb); clear hb))
    go_ret
    exact ⟨rfl, B2.out⟩
  | false =>
    have HG' := Lib.hid (HG.out false hgr)
    clear hgr HG
    go_enter Tryd.func4, Tryd.ntmps4
    go_wp2_with (first
      | (go_at_call 19; ((with_reducible refine (HG'.out _ B1.out).mono ?_); rintro x w2 ⟨rfl, hb⟩; have B2 := Lib.hid (bt B1.out hb); have C2 := Lib.hid (C1.out.below hb); have k0 := C2.out.c0; have k1 := C2.out.c1; clear hb))
      | (go_at_call 12; ((with_reducible refine (HR.out _ B2.out).mono ?_); rintro x w3 ⟨rfl, hb⟩; have B3 := Lib.hid (bt B2.out hb); have C3 := Lib.hid (C2.out.below hb); have l0 := C3.out.c0; have l1 := C3.out.c1; clear hb))
      | (go_at_call 20; ((with_reducible refine (HF.out _ B3.out).mono ?_); rintro x w4 ⟨rfl, hb⟩; have B4 := Lib.hid (bt B3.out hb); clear hb)))
    go_ret
    exact ⟨rfl, B4.out⟩

set_option maxRecDepth 100000 in
set_option maxHeartbeats 1600000 in
theorem counts_law (we : Int) (A : Option Addr) (c : Nat) (hs : List Int) (a b n : Int) (w : World) (h : CalIn w we A c hs) (n0 : -9223372036854775808 ≤ n) (n1 : n ≤ 9223372036854775807) (hV : VarD w) :
    Calls Tryd.prog 5 #[.agg #[.int .u8 we, .slice A hs.length c], .int .i64 a, .int .i64 b, .int .i64 n] w fun e w' => e = .returned (.bool true) ∧ Below w.heap.size w w' := by
  have C1 := Lib.hid (CalAt.new (we := we) (c := c) h.rd)
  have B1 := Lib.hid (bel1 w (.cells #[.int .u8 we, .slice A hs.length c] 24))
  have c0 := C1.out.c0
  have c1 := C1.out.c1
  obtain ⟨v, hv⟩ : ∃ v, adV we hs a n = v := ⟨_, rfl⟩
  obtain ⟨g, hg⟩ : ∃ g, adE we hs a n = g := ⟨_, rfl⟩
  obtain ⟨u, hu⟩ : ∃ u, coV we hs a b = u := ⟨_, rfl⟩
  obtain ⟨f, hf⟩ : ∃ f, chkE we hs [a, b] = f := ⟨_, rfl⟩
  have HA : Hid (∀ w', Below w.heap.size w w' → Calls _ _ _ _ _) := fun w' hb => add_any we A c hs a n v g w' (h.below hb) n0 n1 (hV.below hb) hv hg
  have HRA : Hid (∀ w', Below w.heap.size w w' → Calls _ _ _ _ _) := fun w' hb => refAdd_any we A c hs a n v g w' (h.below hb) hv hg
  have HC : Hid (∀ w', Below w.heap.size w w' → Calls _ _ _ _ _) := fun w' hb => count_any we A c hs a b u f w' (h.below hb) hu hf
  have HRC : Hid (∀ w', Below w.heap.size w w' → Calls _ _ _ _ _) := fun w' hb => refCount_any we A c hs a b u f w' (h.below hb) hu hf
  have HG : Hid (∀ b, grtB hs = b → ∀ w', Below w.heap.size w w' → Calls Tryd.prog 19 #[.agg #[.int .u8 we, .slice A hs.length c]] w' fun x w2 => x = .returned (.bool b) ∧ Below w'.heap.size w' w2) := fun b hb' w' hb => great_any we A c hs b w' (h.below hb) hb'
  clear h hV hv hg hu hf
  cases hgr : grtB hs with
  | true =>
    have HG' := Lib.hid (HG.out true hgr)
    clear hgr HG
    go_enter Tryd.func5, Tryd.ntmps5
    go_wp2_with (go_at_call 19; ((with_reducible refine (HG'.out _ B1.out).mono ?_); rintro x w2 ⟨rfl, hb⟩; have B2 := Lib.hid (bt B1.out hb); clear hb))
    go_ret
    exact ⟨rfl, B2.out⟩
  | false =>
    have HG' := Lib.hid (HG.out false hgr)
    clear hgr HG
    go_enter Tryd.func5, Tryd.ntmps5
    go_wp2_with (first
      | (go_at_call 19; ((with_reducible refine (HG'.out _ B1.out).mono ?_); rintro x w2 ⟨rfl, hb⟩; have B2 := Lib.hid (bt B1.out hb); have C2 := Lib.hid (C1.out.below hb); have k0 := C2.out.c0; have k1 := C2.out.c1; clear hb))
      | (go_at_call 13; ((with_reducible refine (HA.out _ B2.out).mono ?_); rintro x w3 ⟨rfl, hb⟩; have B3 := Lib.hid (bt B2.out hb); have C3 := Lib.hid (C2.out.below hb); have l0 := C3.out.c0; have l1 := C3.out.c1; clear hb))
      | (go_at_call 21; ((with_reducible refine (HRA.out _ B3.out).mono ?_); rintro x w4 ⟨rfl, hb⟩; have B4 := Lib.hid (bt B3.out hb); have C4 := Lib.hid (C3.out.below hb); have m0 := C4.out.c0; have m1 := C4.out.c1; clear hb))
      | (go_at_call 14; ((with_reducible refine (HC.out _ B4.out).mono ?_); rintro x w5 ⟨rfl, hb⟩; have B5 := Lib.hid (bt B4.out hb); have C5 := Lib.hid (C4.out.below hb); have o0 := C5.out.c0; have o1 := C5.out.c1; clear hb))
      | (go_at_call 22; ((with_reducible refine (HRC.out _ B5.out).mono ?_); rintro x w6 ⟨rfl, hb⟩; have B6 := Lib.hid (bt B5.out hb); clear hb)))
    go_ret
    exact ⟨rfl, B6.out⟩
end Go.Proofs.YtgnmcjfocnnffaaDoor

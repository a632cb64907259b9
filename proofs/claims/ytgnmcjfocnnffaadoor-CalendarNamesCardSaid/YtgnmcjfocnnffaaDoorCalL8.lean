/- The walk of the law CalendarJoins. -/
import Derived.Test.YtgnmcjfocnnffaaDoorCalW
import Derived.Test.YtgnmcjfocnnffaaDoorCalL4
namespace Go.Proofs.YtgnmcjfocnnffaaDoor
open Go Go.RowKit

/-- A joint calendar, as a law's walk is told of it. -/
def JonS (we1 : Int) (A1 : Option Addr) (c1 : Nat) (hs1 : List Int) (we2 : Int) (A2 : Option Addr) (c2 : Nat) (hs2 : List Int) (W : Int) (L : List Int) (E : Int) (w : World) : Prop :=
  Calls Tryd.prog 15 #[.agg #[.int .u8 we1, .slice A1 hs1.length c1], .agg #[.int .u8 we2, .slice A2 hs2.length c2]] w fun x w' => ∃ A c, x = .returned (.tuple #[.agg #[.int .u8 W, .slice A L.length c], .int .i64 E]) ∧ CalIn w' W A c L ∧ Below w.heap.size w w'
def SmeS (we1 : Int) (A1 : Option Addr) (c1 : Nat) (hs1 : List Int) (we2 : Int) (A2 : Option Addr) (c2 : Nat) (hs2 : List Int) (b : Bool) (w : World) : Prop :=
  Calls Tryd.prog 18 #[.agg #[.int .u8 we1, .slice A1 hs1.length c1], .agg #[.int .u8 we2, .slice A2 hs2.length c2]] w fun x w' => x = .returned (.bool b) ∧ Below w.heap.size w w'

set_option maxRecDepth 100000 in
set_option maxHeartbeats 3200000 in
theorem joins_g1 (we1 : Int) (A1 : Option Addr) (c1 : Nat) (hs1 : List Int) (we2 : Int) (A2 : Option Addr) (c2 : Nat) (hs2 : List Int) (day : Int) (w : World) (h1 : CalIn w we1 A1 c1 hs1) (h2 : CalIn w we2 A2 c2 hs2) (hV : VarS w)
    (hg1 : ∀ w', Below w.heap.size w w' → GrtS we1 A1 c1 hs1 true w') :
    Calls Tryd.prog 9 #[.agg #[.int .u8 we1, .slice A1 hs1.length c1], .agg #[.int .u8 we2, .slice A2 hs2.length c2], .int .i64 day] w fun e w' => e = .returned (.bool true) ∧ Below w.heap.size w w' := by
  obtain ⟨W2, hW2⟩ : ∃ W2, (w.alloc (.cells #[.int .u8 we1, .slice A1 hs1.length c1] 24)).alloc (.cells #[.int .u8 we2, .slice A2 hs2.length c2] 24) = W2 := ⟨_, rfl⟩
  have hb2 : Below w.heap.size w W2 := by rw [← hW2]; exact bel2 _ _ _
  have hC1 : CalAt W2 w.heap.size we1 A1 c1 hs1 := by rw [← hW2]; exact (CalAt.new h1.rd).below (bel1 _ _)
  have hC2 : CalAt W2 (w.heap.size + 1) we2 A2 c2 hs2 := by
    have := CalAt.new (we := we2) (c := c2) (h2.rd.below (bel1 w (.cells #[.int .u8 we1, .slice A1 hs1.length c1] 24)))
    rw [World.size_alloc] at this
    rw [← hW2]; exact this
  have B0 := Lib.hid hb2
  have Ca0 := Lib.hid hC1
  have Cb0 := Lib.hid hC2
  have HL : Hid (∀ w', Below w.heap.size w w' → Calls _ _ _ _ _) := fun w' hb => calive_any w' (hV.below hb)
  have HG1 : Hid (∀ w', Below w.heap.size w w' → Calls _ _ _ _ _) := hg1
  have ka0 := hC1.c0
  have ka1 := hC1.c1
  have kb0 := hC2.c0
  have kb1 := hC2.c1
  clear h1 h2 hV hC1 hC2 hb2 hg1
  go_enter Tryd.func9, Tryd.ntmps9
  go_wp2_with (first
    | (go_at_call 17; ((with_reducible refine (HL.out _ B0.out).mono ?_); rintro x u1 ⟨rfl, hb⟩; have B1 := Lib.hid (bt B0.out hb); have Ca1 := Lib.hid (Ca0.out.below hb); have ka0_1 := Ca1.out.c0; have ka1_1 := Ca1.out.c1; clear ka0 ka1; have Cb1 := Lib.hid (Cb0.out.below hb); have kb0_1 := Cb1.out.c0; have kb1_1 := Cb1.out.c1; clear kb0 kb1; clear hb))
    | (go_at_call 19; ((with_reducible refine (HG1.out _ B1.out).mono ?_); rintro x u2 ⟨rfl, hb⟩; have B2 := Lib.hid (bt B1.out hb); clear hb)))
  go_ret
  exact ⟨rfl, B2.out⟩

set_option maxRecDepth 100000 in
set_option maxHeartbeats 3200000 in
theorem joins_g2 (we1 : Int) (A1 : Option Addr) (c1 : Nat) (hs1 : List Int) (we2 : Int) (A2 : Option Addr) (c2 : Nat) (hs2 : List Int) (day : Int) (w : World) (h1 : CalIn w we1 A1 c1 hs1) (h2 : CalIn w we2 A2 c2 hs2) (hV : VarS w)
    (hg1 : ∀ w', Below w.heap.size w w' → GrtS we1 A1 c1 hs1 false w') (hg2 : ∀ w', Below w.heap.size w w' → GrtS we2 A2 c2 hs2 true w') :
    Calls Tryd.prog 9 #[.agg #[.int .u8 we1, .slice A1 hs1.length c1], .agg #[.int .u8 we2, .slice A2 hs2.length c2], .int .i64 day] w fun e w' => e = .returned (.bool true) ∧ Below w.heap.size w w' := by
  obtain ⟨W2, hW2⟩ : ∃ W2, (w.alloc (.cells #[.int .u8 we1, .slice A1 hs1.length c1] 24)).alloc (.cells #[.int .u8 we2, .slice A2 hs2.length c2] 24) = W2 := ⟨_, rfl⟩
  have hb2 : Below w.heap.size w W2 := by rw [← hW2]; exact bel2 _ _ _
  have hC1 : CalAt W2 w.heap.size we1 A1 c1 hs1 := by rw [← hW2]; exact (CalAt.new h1.rd).below (bel1 _ _)
  have hC2 : CalAt W2 (w.heap.size + 1) we2 A2 c2 hs2 := by
    have := CalAt.new (we := we2) (c := c2) (h2.rd.below (bel1 w (.cells #[.int .u8 we1, .slice A1 hs1.length c1] 24)))
    rw [World.size_alloc] at this
    rw [← hW2]; exact this
  have B0 := Lib.hid hb2
  have Ca0 := Lib.hid hC1
  have Cb0 := Lib.hid hC2
  have HL : Hid (∀ w', Below w.heap.size w w' → Calls _ _ _ _ _) := fun w' hb => calive_any w' (hV.below hb)
  have HG1 : Hid (∀ w', Below w.heap.size w w' → Calls _ _ _ _ _) := hg1
  have HG2 : Hid (∀ w', Below w.heap.size w w' → Calls _ _ _ _ _) := hg2
  have ka0 := hC1.c0
  have ka1 := hC1.c1
  have kb0 := hC2.c0
  have kb1 := hC2.c1
  clear h1 h2 hV hC1 hC2 hb2 hg1 hg2
  go_enter Tryd.func9, Tryd.ntmps9
  go_wp2_with (first
    | (go_at_call 17; ((with_reducible refine (HL.out _ B0.out).mono ?_); rintro x u1 ⟨rfl, hb⟩; have B1 := Lib.hid (bt B0.out hb); have Ca1 := Lib.hid (Ca0.out.below hb); have ka0_1 := Ca1.out.c0; have ka1_1 := Ca1.out.c1; clear ka0 ka1; have Cb1 := Lib.hid (Cb0.out.below hb); have kb0_1 := Cb1.out.c0; have kb1_1 := Cb1.out.c1; clear kb0 kb1; clear hb))
    | (go_at_call 19; ((with_reducible refine (HG1.out _ B1.out).mono ?_); rintro x u2 ⟨rfl, hb⟩; have B2 := Lib.hid (bt B1.out hb); have Ca2 := Lib.hid (Ca1.out.below hb); have ka0_2 := Ca2.out.c0; have ka1_2 := Ca2.out.c1; clear ka0_1 ka1_1; have Cb2 := Lib.hid (Cb1.out.below hb); have kb0_2 := Cb2.out.c0; have kb1_2 := Cb2.out.c1; clear kb0_1 kb1_1; clear hb))
    | (go_at_call 19; ((with_reducible refine (HG2.out _ B2.out).mono ?_); rintro x u3 ⟨rfl, hb⟩; have B3 := Lib.hid (bt B2.out hb); clear hb)))
  go_ret
  exact ⟨rfl, B3.out⟩

set_option maxRecDepth 100000 in
set_option maxHeartbeats 3200000 in
theorem joins_bad (we1 : Int) (A1 : Option Addr) (c1 : Nat) (hs1 : List Int) (we2 : Int) (A2 : Option Addr) (c2 : Nat) (hs2 : List Int) (day : Int) (L : List Int) (w : World) (h1 : CalIn w we1 A1 c1 hs1) (h2 : CalIn w we2 A2 c2 hs2) (hV : VarS w)
    (hg1 : ∀ w', Below w.heap.size w w' → GrtS we1 A1 c1 hs1 false w') (hg2 : ∀ w', Below w.heap.size w w' → GrtS we2 A2 c2 hs2 false w') (hj0 : ∀ w', Below w.heap.size w w' → JonS we1 A1 c1 hs1 we1 A1 c1 hs1 0 L 8 w') (hc : ∀ w', Below w.heap.size w w' → ChkS we1 A1 c1 hs1 8 w') (hj1 : ∀ w', Below w.heap.size w w' → JonS we1 A1 c1 hs1 we2 A2 c2 hs2 0 L 8 w') (hj2 : ∀ w', Below w.heap.size w w' → JonS we2 A2 c2 hs2 we1 A1 c1 hs1 0 L 8 w') (hs : ∀ w' A c A' c', CalIn w' 0 A c L → CalIn w' 0 A' c' L → SmeS 0 A c L 0 A' c' L true w') (hl : ((L.length : Int) == 0) = true) :
    Calls Tryd.prog 9 #[.agg #[.int .u8 we1, .slice A1 hs1.length c1], .agg #[.int .u8 we2, .slice A2 hs2.length c2], .int .i64 day] w fun e w' => e = .returned (.bool true) ∧ Below w.heap.size w w' := by
  obtain ⟨W2, hW2⟩ : ∃ W2, (w.alloc (.cells #[.int .u8 we1, .slice A1 hs1.length c1] 24)).alloc (.cells #[.int .u8 we2, .slice A2 hs2.length c2] 24) = W2 := ⟨_, rfl⟩
  have hb2 : Below w.heap.size w W2 := by rw [← hW2]; exact bel2 _ _ _
  have hC1 : CalAt W2 w.heap.size we1 A1 c1 hs1 := by rw [← hW2]; exact (CalAt.new h1.rd).below (bel1 _ _)
  have hC2 : CalAt W2 (w.heap.size + 1) we2 A2 c2 hs2 := by
    have := CalAt.new (we := we2) (c := c2) (h2.rd.below (bel1 w (.cells #[.int .u8 we1, .slice A1 hs1.length c1] 24)))
    rw [World.size_alloc] at this
    rw [← hW2]; exact this
  have B0 := Lib.hid hb2
  have Ca0 := Lib.hid hC1
  have Cb0 := Lib.hid hC2
  have HL : Hid (∀ w', Below w.heap.size w w' → Calls _ _ _ _ _) := fun w' hb => calive_any w' (hV.below hb)
  have HG1 : Hid (∀ w', Below w.heap.size w w' → Calls _ _ _ _ _) := hg1
  have HG2 : Hid (∀ w', Below w.heap.size w w' → Calls _ _ _ _ _) := hg2
  have HJ0 : Hid (∀ w', Below w.heap.size w w' → Calls _ _ _ _ _) := hj0
  have HC : Hid (∀ w', Below w.heap.size w w' → Calls _ _ _ _ _) := hc
  have HJ1 : Hid (∀ w', Below w.heap.size w w' → Calls _ _ _ _ _) := hj1
  have HJ2 : Hid (∀ w', Below w.heap.size w w' → Calls _ _ _ _ _) := hj2
  have HS : Hid (∀ w' (A : Option Addr) (c : Nat) (A' : Option Addr) (c' : Nat), CalIn w' _ A c _ → CalIn w' _ A' c' _ → Calls _ _ _ _ _) := hs
  have ka0 := hC1.c0
  have ka1 := hC1.c1
  have kb0 := hC2.c0
  have kb1 := hC2.c1
  clear h1 h2 hV hC1 hC2 hb2 hg1 hg2 hj0 hc hj1 hj2 hs
  go_enter Tryd.func9, Tryd.ntmps9
  go_wp2_with (first
    | (go_at_call 17; ((with_reducible refine (HL.out _ B0.out).mono ?_); rintro x u1 ⟨rfl, hb⟩; have B1 := Lib.hid (bt B0.out hb); have Ca1 := Lib.hid (Ca0.out.below hb); have ka0_1 := Ca1.out.c0; have ka1_1 := Ca1.out.c1; clear ka0 ka1; have Cb1 := Lib.hid (Cb0.out.below hb); have kb0_1 := Cb1.out.c0; have kb1_1 := Cb1.out.c1; clear kb0 kb1; clear hb))
    | (go_at_call 19; ((with_reducible refine (HG1.out _ B1.out).mono ?_); rintro x u2 ⟨rfl, hb⟩; have B2 := Lib.hid (bt B1.out hb); have Ca2 := Lib.hid (Ca1.out.below hb); have ka0_2 := Ca2.out.c0; have ka1_2 := Ca2.out.c1; clear ka0_1 ka1_1; have Cb2 := Lib.hid (Cb1.out.below hb); have kb0_2 := Cb2.out.c0; have kb1_2 := Cb2.out.c1; clear kb0_1 kb1_1; clear hb))
    | (go_at_call 19; ((with_reducible refine (HG2.out _ B2.out).mono ?_); rintro x u3 ⟨rfl, hb⟩; have B3 := Lib.hid (bt B2.out hb); have Ca3 := Lib.hid (Ca2.out.below hb); have ka0_3 := Ca3.out.c0; have ka1_3 := Ca3.out.c1; clear ka0_2 ka1_2; have Cb3 := Lib.hid (Cb2.out.below hb); have kb0_3 := Cb3.out.c0; have kb1_3 := Cb3.out.c1; clear kb0_2 kb1_2; clear hb))
    | (go_at_call 15; ((with_reducible refine (HJ0.out _ B3.out).mono ?_); rintro x u4 ⟨As, cs, rfl, hin, hb⟩; have ha := bel1 u4 (.cells #[.int .u8 0, .slice As L.length cs] 24); have B4 := Lib.hid (bt (bt B3.out hb) ha); have Ca4 := Lib.hid ((Ca3.out.below hb).below ha); have ka0_4 := Ca4.out.c0; have ka1_4 := Ca4.out.c1; clear ka0_3 ka1_3; have Cb4 := Lib.hid ((Cb3.out.below hb).below ha); have kb0_4 := Cb4.out.c0; have kb1_4 := Cb4.out.c1; clear kb0_3 kb1_3; have Cs4 := Lib.hid (CalAt.new (we := 0) (c := cs) hin.rd); have ks0_4 := Cs4.out.c0; have ks1_4 := Cs4.out.c1; have Is4 := Lib.hid (hin.below ha); clear hb ha hin))
    | (go_at_call 16; ((with_reducible refine (HC.out _ B4.out).mono ?_); rintro x u5 ⟨rfl, hb⟩; have B5 := Lib.hid (bt B4.out hb); have Ca5 := Lib.hid (Ca4.out.below hb); have ka0_5 := Ca5.out.c0; have ka1_5 := Ca5.out.c1; clear ka0_4 ka1_4; have Cb5 := Lib.hid (Cb4.out.below hb); have kb0_5 := Cb5.out.c0; have kb1_5 := Cb5.out.c1; clear kb0_4 kb1_4; have Cs5 := Lib.hid (Cs4.out.below hb); have ks0_5 := Cs5.out.c0; have ks1_5 := Cs5.out.c1; clear ks0_4 ks1_4; have Is5 := Lib.hid (Is4.out.below hb); clear hb))
    | (go_at_call 15; ((with_reducible refine (HJ1.out _ B5.out).mono ?_); rintro x u6 ⟨Ac, cc, rfl, hin, hb⟩; have ha := bel1 u6 (.cells #[.int .u8 0, .slice Ac L.length cc] 24); have B6 := Lib.hid (bt (bt B5.out hb) ha); have Ca6 := Lib.hid ((Ca5.out.below hb).below ha); have ka0_6 := Ca6.out.c0; have ka1_6 := Ca6.out.c1; clear ka0_5 ka1_5; have Cb6 := Lib.hid ((Cb5.out.below hb).below ha); have kb0_6 := Cb6.out.c0; have kb1_6 := Cb6.out.c1; clear kb0_5 kb1_5; have Cs6 := Lib.hid ((Cs5.out.below hb).below ha); have ks0_6 := Cs6.out.c0; have ks1_6 := Cs6.out.c1; clear ks0_5 ks1_5; have Is6 := Lib.hid ((Is5.out.below hb).below ha); have Cc6 := Lib.hid (CalAt.new (we := 0) (c := cc) hin.rd); have kc0_6 := Cc6.out.c0; have kc1_6 := Cc6.out.c1; have Ic6 := Lib.hid (hin.below ha); clear hb ha hin))
    | (go_at_call 15; ((with_reducible refine (HJ2.out _ B6.out).mono ?_); rintro x u7 ⟨Ad, cd, rfl, hin, hb⟩; have ha := bel1 u7 (.cells #[.int .u8 0, .slice Ad L.length cd] 24); have B7 := Lib.hid (bt (bt B6.out hb) ha); have Ca7 := Lib.hid ((Ca6.out.below hb).below ha); have ka0_7 := Ca7.out.c0; have ka1_7 := Ca7.out.c1; clear ka0_6 ka1_6; have Cb7 := Lib.hid ((Cb6.out.below hb).below ha); have kb0_7 := Cb7.out.c0; have kb1_7 := Cb7.out.c1; clear kb0_6 kb1_6; have Cs7 := Lib.hid ((Cs6.out.below hb).below ha); have ks0_7 := Cs7.out.c0; have ks1_7 := Cs7.out.c1; clear ks0_6 ks1_6; have Cc7 := Lib.hid ((Cc6.out.below hb).below ha); have kc0_7 := Cc7.out.c0; have kc1_7 := Cc7.out.c1; clear kc0_6 kc1_6; have Is7 := Lib.hid ((Is6.out.below hb).below ha); have Ic7 := Lib.hid ((Ic6.out.below hb).below ha); have Cd7 := Lib.hid (CalAt.new (we := 0) (c := cd) hin.rd); have kd0_7 := Cd7.out.c0; have kd1_7 := Cd7.out.c1; have Id7 := Lib.hid (hin.below ha); clear hb ha hin))
    | (go_at_call 18; ((with_reducible refine (HS.out _ _ _ _ _ Ic7.out Id7.out).mono ?_); rintro x u8 ⟨rfl, hb⟩; have B8 := Lib.hid (bt B7.out hb); have Ca8 := Lib.hid (Ca7.out.below hb); have ka0_8 := Ca8.out.c0; have ka1_8 := Ca8.out.c1; clear ka0_7 ka1_7; have Cb8 := Lib.hid (Cb7.out.below hb); have kb0_8 := Cb8.out.c0; have kb1_8 := Cb8.out.c1; clear kb0_7 kb1_7; have Cs8 := Lib.hid (Cs7.out.below hb); have ks0_8 := Cs8.out.c0; have ks1_8 := Cs8.out.c1; clear ks0_7 ks1_7; have Cc8 := Lib.hid (Cc7.out.below hb); have kc0_8 := Cc8.out.c0; have kc1_8 := Cc8.out.c1; clear kc0_7 kc1_7; have Cd8 := Lib.hid (Cd7.out.below hb); have kd0_8 := Cd8.out.c0; have kd1_8 := Cd8.out.c1; clear kd0_7 kd1_7; have Is8 := Lib.hid (Is7.out.below hb); have Ic8 := Lib.hid (Ic7.out.below hb); have Id8 := Lib.hid (Id7.out.below hb); clear hb)))
  go_ret
  exact ⟨rfl, B8.out⟩

set_option maxRecDepth 100000 in
set_option maxHeartbeats 3200000 in
theorem joins_none (we1 : Int) (A1 : Option Addr) (c1 : Nat) (hs1 : List Int) (we2 : Int) (A2 : Option Addr) (c2 : Nat) (hs2 : List Int) (day : Int) (E : Int) (L : List Int) (w : World) (h1 : CalIn w we1 A1 c1 hs1) (h2 : CalIn w we2 A2 c2 hs2) (hV : VarS w)
    (hg1 : ∀ w', Below w.heap.size w w' → GrtS we1 A1 c1 hs1 false w') (hg2 : ∀ w', Below w.heap.size w w' → GrtS we2 A2 c2 hs2 false w') (hj0 : ∀ w', Below w.heap.size w w' → JonS we1 A1 c1 hs1 we1 A1 c1 hs1 we1 hs1 0 w') (hc : ∀ w', Below w.heap.size w w' → ChkS we1 A1 c1 hs1 0 w') (hs0 : ∀ w' A c, CalIn w' we1 A c hs1 → CalIn w' we1 A1 c1 hs1 → SmeS we1 A c hs1 we1 A1 c1 hs1 true w') (hj1 : ∀ w', Below w.heap.size w w' → JonS we1 A1 c1 hs1 we2 A2 c2 hs2 0 L E w') (hj2 : ∀ w', Below w.heap.size w w' → JonS we2 A2 c2 hs2 we1 A1 c1 hs1 0 L E w') (hs : ∀ w' A c A' c', CalIn w' 0 A c L → CalIn w' 0 A' c' L → SmeS 0 A c L 0 A' c' L true w') (hE : E ≠ 0) (hl : ((L.length : Int) == 0) = true) :
    Calls Tryd.prog 9 #[.agg #[.int .u8 we1, .slice A1 hs1.length c1], .agg #[.int .u8 we2, .slice A2 hs2.length c2], .int .i64 day] w fun e w' => e = .returned (.bool true) ∧ Below w.heap.size w w' := by
  obtain ⟨W2, hW2⟩ : ∃ W2, (w.alloc (.cells #[.int .u8 we1, .slice A1 hs1.length c1] 24)).alloc (.cells #[.int .u8 we2, .slice A2 hs2.length c2] 24) = W2 := ⟨_, rfl⟩
  have hb2 : Below w.heap.size w W2 := by rw [← hW2]; exact bel2 _ _ _
  have hC1 : CalAt W2 w.heap.size we1 A1 c1 hs1 := by rw [← hW2]; exact (CalAt.new h1.rd).below (bel1 _ _)
  have hC2 : CalAt W2 (w.heap.size + 1) we2 A2 c2 hs2 := by
    have := CalAt.new (we := we2) (c := c2) (h2.rd.below (bel1 w (.cells #[.int .u8 we1, .slice A1 hs1.length c1] 24)))
    rw [World.size_alloc] at this
    rw [← hW2]; exact this
  have B0 := Lib.hid hb2
  have Ca0 := Lib.hid hC1
  have Cb0 := Lib.hid hC2
  have HL : Hid (∀ w', Below w.heap.size w w' → Calls _ _ _ _ _) := fun w' hb => calive_any w' (hV.below hb)
  have HG1 : Hid (∀ w', Below w.heap.size w w' → Calls _ _ _ _ _) := hg1
  have HG2 : Hid (∀ w', Below w.heap.size w w' → Calls _ _ _ _ _) := hg2
  have HJ0 : Hid (∀ w', Below w.heap.size w w' → Calls _ _ _ _ _) := hj0
  have HC : Hid (∀ w', Below w.heap.size w w' → Calls _ _ _ _ _) := hc
  have HS0 : Hid (∀ w' (A : Option Addr) (c : Nat), CalIn w' _ A c _ → CalIn w' _ _ _ _ → Calls _ _ _ _ _) := hs0
  have HJ1 : Hid (∀ w', Below w.heap.size w w' → Calls _ _ _ _ _) := hj1
  have HJ2 : Hid (∀ w', Below w.heap.size w w' → Calls _ _ _ _ _) := hj2
  have HS : Hid (∀ w' (A : Option Addr) (c : Nat) (A' : Option Addr) (c' : Nat), CalIn w' _ A c _ → CalIn w' _ A' c' _ → Calls _ _ _ _ _) := hs
  have H1 := Lib.hid h1
  have ka0 := hC1.c0
  have ka1 := hC1.c1
  have kb0 := hC2.c0
  have kb1 := hC2.c1
  clear h1 h2 hV hC1 hC2 hb2 hg1 hg2 hj0 hc hs0 hj1 hj2 hs
  have he1 : (E == 0) = false := by rw [beq_eq_false_iff_ne]; exact hE
  have he2 : (E != 0) = true := by rw [bne_iff_ne]; exact hE
  have he3 : (E != E) = false := by simp
  have he4 : (E == E) = true := by simp
  clear hE
  go_enter Tryd.func9, Tryd.ntmps9
  go_wp2_with (first
    | (go_at_call 17; ((with_reducible refine (HL.out _ B0.out).mono ?_); rintro x u1 ⟨rfl, hb⟩; have B1 := Lib.hid (bt B0.out hb); have Ca1 := Lib.hid (Ca0.out.below hb); have ka0_1 := Ca1.out.c0; have ka1_1 := Ca1.out.c1; clear ka0 ka1; have Cb1 := Lib.hid (Cb0.out.below hb); have kb0_1 := Cb1.out.c0; have kb1_1 := Cb1.out.c1; clear kb0 kb1; clear hb))
    | (go_at_call 19; ((with_reducible refine (HG1.out _ B1.out).mono ?_); rintro x u2 ⟨rfl, hb⟩; have B2 := Lib.hid (bt B1.out hb); have Ca2 := Lib.hid (Ca1.out.below hb); have ka0_2 := Ca2.out.c0; have ka1_2 := Ca2.out.c1; clear ka0_1 ka1_1; have Cb2 := Lib.hid (Cb1.out.below hb); have kb0_2 := Cb2.out.c0; have kb1_2 := Cb2.out.c1; clear kb0_1 kb1_1; clear hb))
    | (go_at_call 19; ((with_reducible refine (HG2.out _ B2.out).mono ?_); rintro x u3 ⟨rfl, hb⟩; have B3 := Lib.hid (bt B2.out hb); have Ca3 := Lib.hid (Ca2.out.below hb); have ka0_3 := Ca3.out.c0; have ka1_3 := Ca3.out.c1; clear ka0_2 ka1_2; have Cb3 := Lib.hid (Cb2.out.below hb); have kb0_3 := Cb3.out.c0; have kb1_3 := Cb3.out.c1; clear kb0_2 kb1_2; clear hb))
    | (go_at_call 15; ((with_reducible refine (HJ0.out _ B3.out).mono ?_); rintro x u4 ⟨As, cs, rfl, hin, hb⟩; have ha := bel1 u4 (.cells #[.int .u8 we1, .slice As hs1.length cs] 24); have B4 := Lib.hid (bt (bt B3.out hb) ha); have Ca4 := Lib.hid ((Ca3.out.below hb).below ha); have ka0_4 := Ca4.out.c0; have ka1_4 := Ca4.out.c1; clear ka0_3 ka1_3; have Cb4 := Lib.hid ((Cb3.out.below hb).below ha); have kb0_4 := Cb4.out.c0; have kb1_4 := Cb4.out.c1; clear kb0_3 kb1_3; have Cs4 := Lib.hid (CalAt.new (we := we1) (c := cs) hin.rd); have ks0_4 := Cs4.out.c0; have ks1_4 := Cs4.out.c1; have Is4 := Lib.hid (hin.below ha); clear hb ha hin))
    | (go_at_call 16; ((with_reducible refine (HC.out _ B4.out).mono ?_); rintro x u5 ⟨rfl, hb⟩; have B5 := Lib.hid (bt B4.out hb); have Ca5 := Lib.hid (Ca4.out.below hb); have ka0_5 := Ca5.out.c0; have ka1_5 := Ca5.out.c1; clear ka0_4 ka1_4; have Cb5 := Lib.hid (Cb4.out.below hb); have kb0_5 := Cb5.out.c0; have kb1_5 := Cb5.out.c1; clear kb0_4 kb1_4; have Cs5 := Lib.hid (Cs4.out.below hb); have ks0_5 := Cs5.out.c0; have ks1_5 := Cs5.out.c1; clear ks0_4 ks1_4; have Is5 := Lib.hid (Is4.out.below hb); clear hb))
    | (go_at_call 18; ((with_reducible refine (HS0.out _ _ _ Is5.out (H1.out.below B5.out)).mono ?_); rintro x u6 ⟨rfl, hb⟩; have B6 := Lib.hid (bt B5.out hb); have Ca6 := Lib.hid (Ca5.out.below hb); have ka0_6 := Ca6.out.c0; have ka1_6 := Ca6.out.c1; clear ka0_5 ka1_5; have Cb6 := Lib.hid (Cb5.out.below hb); have kb0_6 := Cb6.out.c0; have kb1_6 := Cb6.out.c1; clear kb0_5 kb1_5; have Cs6 := Lib.hid (Cs5.out.below hb); have ks0_6 := Cs6.out.c0; have ks1_6 := Cs6.out.c1; clear ks0_5 ks1_5; have Is6 := Lib.hid (Is5.out.below hb); clear hb))
    | (go_at_call 15; ((with_reducible refine (HJ1.out _ B6.out).mono ?_); rintro x u7 ⟨Ac, cc, rfl, hin, hb⟩; have ha := bel1 u7 (.cells #[.int .u8 0, .slice Ac L.length cc] 24); have B7 := Lib.hid (bt (bt B6.out hb) ha); have Ca7 := Lib.hid ((Ca6.out.below hb).below ha); have ka0_7 := Ca7.out.c0; have ka1_7 := Ca7.out.c1; clear ka0_6 ka1_6; have Cb7 := Lib.hid ((Cb6.out.below hb).below ha); have kb0_7 := Cb7.out.c0; have kb1_7 := Cb7.out.c1; clear kb0_6 kb1_6; have Cs7 := Lib.hid ((Cs6.out.below hb).below ha); have ks0_7 := Cs7.out.c0; have ks1_7 := Cs7.out.c1; clear ks0_6 ks1_6; have Is7 := Lib.hid ((Is6.out.below hb).below ha); have Cc7 := Lib.hid (CalAt.new (we := 0) (c := cc) hin.rd); have kc0_7 := Cc7.out.c0; have kc1_7 := Cc7.out.c1; have Ic7 := Lib.hid (hin.below ha); clear hb ha hin))
    | (go_at_call 15; ((with_reducible refine (HJ2.out _ B7.out).mono ?_); rintro x u8 ⟨Ad, cd, rfl, hin, hb⟩; have ha := bel1 u8 (.cells #[.int .u8 0, .slice Ad L.length cd] 24); have B8 := Lib.hid (bt (bt B7.out hb) ha); have Ca8 := Lib.hid ((Ca7.out.below hb).below ha); have ka0_8 := Ca8.out.c0; have ka1_8 := Ca8.out.c1; clear ka0_7 ka1_7; have Cb8 := Lib.hid ((Cb7.out.below hb).below ha); have kb0_8 := Cb8.out.c0; have kb1_8 := Cb8.out.c1; clear kb0_7 kb1_7; have Cs8 := Lib.hid ((Cs7.out.below hb).below ha); have ks0_8 := Cs8.out.c0; have ks1_8 := Cs8.out.c1; clear ks0_7 ks1_7; have Cc8 := Lib.hid ((Cc7.out.below hb).below ha); have kc0_8 := Cc8.out.c0; have kc1_8 := Cc8.out.c1; clear kc0_7 kc1_7; have Is8 := Lib.hid ((Is7.out.below hb).below ha); have Ic8 := Lib.hid ((Ic7.out.below hb).below ha); have Cd8 := Lib.hid (CalAt.new (we := 0) (c := cd) hin.rd); have kd0_8 := Cd8.out.c0; have kd1_8 := Cd8.out.c1; have Id8 := Lib.hid (hin.below ha); clear hb ha hin))
    | (go_at_call 18; ((with_reducible refine (HS.out _ _ _ _ _ Ic8.out Id8.out).mono ?_); rintro x u9 ⟨rfl, hb⟩; have B9 := Lib.hid (bt B8.out hb); have Ca9 := Lib.hid (Ca8.out.below hb); have ka0_9 := Ca9.out.c0; have ka1_9 := Ca9.out.c1; clear ka0_8 ka1_8; have Cb9 := Lib.hid (Cb8.out.below hb); have kb0_9 := Cb9.out.c0; have kb1_9 := Cb9.out.c1; clear kb0_8 kb1_8; have Cs9 := Lib.hid (Cs8.out.below hb); have ks0_9 := Cs9.out.c0; have ks1_9 := Cs9.out.c1; clear ks0_8 ks1_8; have Cc9 := Lib.hid (Cc8.out.below hb); have kc0_9 := Cc9.out.c0; have kc1_9 := Cc9.out.c1; clear kc0_8 kc1_8; have Cd9 := Lib.hid (Cd8.out.below hb); have kd0_9 := Cd9.out.c0; have kd1_9 := Cd9.out.c1; clear kd0_8 kd1_8; have Is9 := Lib.hid (Is8.out.below hb); have Ic9 := Lib.hid (Ic8.out.below hb); have Id9 := Lib.hid (Id8.out.below hb); clear hb)))
  go_ret
  exact ⟨rfl, B9.out⟩

set_option maxRecDepth 100000 in
set_option maxHeartbeats 3200000 in
theorem joins_tt (we1 : Int) (A1 : Option Addr) (c1 : Nat) (hs1 : List Int) (we2 : Int) (A2 : Option Addr) (c2 : Nat) (hs2 : List Int) (day : Int) (W e : Int) (L : List Int) (w : World) (h1 : CalIn w we1 A1 c1 hs1) (h2 : CalIn w we2 A2 c2 hs2) (hV : VarS w)
    (hg1 : ∀ w', Below w.heap.size w w' → GrtS we1 A1 c1 hs1 false w') (hg2 : ∀ w', Below w.heap.size w w' → GrtS we2 A2 c2 hs2 false w') (hj0 : ∀ w', Below w.heap.size w w' → JonS we1 A1 c1 hs1 we1 A1 c1 hs1 we1 hs1 0 w') (hc : ∀ w', Below w.heap.size w w' → ChkS we1 A1 c1 hs1 0 w') (hs0 : ∀ w' A c, CalIn w' we1 A c hs1 → CalIn w' we1 A1 c1 hs1 → SmeS we1 A c hs1 we1 A1 c1 hs1 true w') (hj1 : ∀ w', Below w.heap.size w w' → JonS we1 A1 c1 hs1 we2 A2 c2 hs2 W L 0 w') (hj2 : ∀ w', Below w.heap.size w w' → JonS we2 A2 c2 hs2 we1 A1 c1 hs1 W L 0 w') (hs : ∀ w' A c A' c', CalIn w' W A c L → CalIn w' W A' c' L → SmeS W A c L W A' c' L true w') (hb1 : ∀ w', Below w.heap.size w w' → BusS we1 A1 c1 hs1 day true e w') (hy2 : ∀ w', Below w.heap.size w w' → BusS we2 A2 c2 hs2 day true e w') (hb3 : ∀ w' A c, CalIn w' W A c L → BusS W A c L day true e w') :
    Calls Tryd.prog 9 #[.agg #[.int .u8 we1, .slice A1 hs1.length c1], .agg #[.int .u8 we2, .slice A2 hs2.length c2], .int .i64 day] w fun e w' => e = .returned (.bool true) ∧ Below w.heap.size w w' := by
  obtain ⟨W2, hW2⟩ : ∃ W2, (w.alloc (.cells #[.int .u8 we1, .slice A1 hs1.length c1] 24)).alloc (.cells #[.int .u8 we2, .slice A2 hs2.length c2] 24) = W2 := ⟨_, rfl⟩
  have hb2 : Below w.heap.size w W2 := by rw [← hW2]; exact bel2 _ _ _
  have hC1 : CalAt W2 w.heap.size we1 A1 c1 hs1 := by rw [← hW2]; exact (CalAt.new h1.rd).below (bel1 _ _)
  have hC2 : CalAt W2 (w.heap.size + 1) we2 A2 c2 hs2 := by
    have := CalAt.new (we := we2) (c := c2) (h2.rd.below (bel1 w (.cells #[.int .u8 we1, .slice A1 hs1.length c1] 24)))
    rw [World.size_alloc] at this
    rw [← hW2]; exact this
  have B0 := Lib.hid hb2
  have Ca0 := Lib.hid hC1
  have Cb0 := Lib.hid hC2
  have HL : Hid (∀ w', Below w.heap.size w w' → Calls _ _ _ _ _) := fun w' hb => calive_any w' (hV.below hb)
  have HG1 : Hid (∀ w', Below w.heap.size w w' → Calls _ _ _ _ _) := hg1
  have HG2 : Hid (∀ w', Below w.heap.size w w' → Calls _ _ _ _ _) := hg2
  have HJ0 : Hid (∀ w', Below w.heap.size w w' → Calls _ _ _ _ _) := hj0
  have HC : Hid (∀ w', Below w.heap.size w w' → Calls _ _ _ _ _) := hc
  have HS0 : Hid (∀ w' (A : Option Addr) (c : Nat), CalIn w' _ A c _ → CalIn w' _ _ _ _ → Calls _ _ _ _ _) := hs0
  have HJ1 : Hid (∀ w', Below w.heap.size w w' → Calls _ _ _ _ _) := hj1
  have HJ2 : Hid (∀ w', Below w.heap.size w w' → Calls _ _ _ _ _) := hj2
  have HS : Hid (∀ w' (A : Option Addr) (c : Nat) (A' : Option Addr) (c' : Nat), CalIn w' _ A c _ → CalIn w' _ A' c' _ → Calls _ _ _ _ _) := hs
  have HB1 : Hid (∀ w', Below w.heap.size w w' → Calls _ _ _ _ _) := hb1
  have HB2 : Hid (∀ w', Below w.heap.size w w' → Calls _ _ _ _ _) := hy2
  have HB3 : Hid (∀ w' (A : Option Addr) (c : Nat), CalIn w' _ A c _ → Calls _ _ _ _ _) := hb3
  have H1 := Lib.hid h1
  have ka0 := hC1.c0
  have ka1 := hC1.c1
  have kb0 := hC2.c0
  have kb1 := hC2.c1
  clear h1 h2 hV hC1 hC2 hb2 hg1 hg2 hj0 hc hs0 hj1 hj2 hs hb1 hy2 hb3
  have he4 : (e == e) = true := by simp
  have he3 : (e != e) = false := by simp
  go_enter Tryd.func9, Tryd.ntmps9
  go_wp2_with (first
    | (go_at_call 17; ((with_reducible refine (HL.out _ B0.out).mono ?_); rintro x u1 ⟨rfl, hb⟩; have B1 := Lib.hid (bt B0.out hb); have Ca1 := Lib.hid (Ca0.out.below hb); have ka0_1 := Ca1.out.c0; have ka1_1 := Ca1.out.c1; clear ka0 ka1; have Cb1 := Lib.hid (Cb0.out.below hb); have kb0_1 := Cb1.out.c0; have kb1_1 := Cb1.out.c1; clear kb0 kb1; clear hb))
    | (go_at_call 19; ((with_reducible refine (HG1.out _ B1.out).mono ?_); rintro x u2 ⟨rfl, hb⟩; have B2 := Lib.hid (bt B1.out hb); have Ca2 := Lib.hid (Ca1.out.below hb); have ka0_2 := Ca2.out.c0; have ka1_2 := Ca2.out.c1; clear ka0_1 ka1_1; have Cb2 := Lib.hid (Cb1.out.below hb); have kb0_2 := Cb2.out.c0; have kb1_2 := Cb2.out.c1; clear kb0_1 kb1_1; clear hb))
    | (go_at_call 19; ((with_reducible refine (HG2.out _ B2.out).mono ?_); rintro x u3 ⟨rfl, hb⟩; have B3 := Lib.hid (bt B2.out hb); have Ca3 := Lib.hid (Ca2.out.below hb); have ka0_3 := Ca3.out.c0; have ka1_3 := Ca3.out.c1; clear ka0_2 ka1_2; have Cb3 := Lib.hid (Cb2.out.below hb); have kb0_3 := Cb3.out.c0; have kb1_3 := Cb3.out.c1; clear kb0_2 kb1_2; clear hb))
    | (go_at_call 15; ((with_reducible refine (HJ0.out _ B3.out).mono ?_); rintro x u4 ⟨As, cs, rfl, hin, hb⟩; have ha := bel1 u4 (.cells #[.int .u8 we1, .slice As hs1.length cs] 24); have B4 := Lib.hid (bt (bt B3.out hb) ha); have Ca4 := Lib.hid ((Ca3.out.below hb).below ha); have ka0_4 := Ca4.out.c0; have ka1_4 := Ca4.out.c1; clear ka0_3 ka1_3; have Cb4 := Lib.hid ((Cb3.out.below hb).below ha); have kb0_4 := Cb4.out.c0; have kb1_4 := Cb4.out.c1; clear kb0_3 kb1_3; have Cs4 := Lib.hid (CalAt.new (we := we1) (c := cs) hin.rd); have ks0_4 := Cs4.out.c0; have ks1_4 := Cs4.out.c1; have Is4 := Lib.hid (hin.below ha); clear hb ha hin))
    | (go_at_call 16; ((with_reducible refine (HC.out _ B4.out).mono ?_); rintro x u5 ⟨rfl, hb⟩; have B5 := Lib.hid (bt B4.out hb); have Ca5 := Lib.hid (Ca4.out.below hb); have ka0_5 := Ca5.out.c0; have ka1_5 := Ca5.out.c1; clear ka0_4 ka1_4; have Cb5 := Lib.hid (Cb4.out.below hb); have kb0_5 := Cb5.out.c0; have kb1_5 := Cb5.out.c1; clear kb0_4 kb1_4; have Cs5 := Lib.hid (Cs4.out.below hb); have ks0_5 := Cs5.out.c0; have ks1_5 := Cs5.out.c1; clear ks0_4 ks1_4; have Is5 := Lib.hid (Is4.out.below hb); clear hb))
    | (go_at_call 18; ((with_reducible refine (HS0.out _ _ _ Is5.out (H1.out.below B5.out)).mono ?_); rintro x u6 ⟨rfl, hb⟩; have B6 := Lib.hid (bt B5.out hb); have Ca6 := Lib.hid (Ca5.out.below hb); have ka0_6 := Ca6.out.c0; have ka1_6 := Ca6.out.c1; clear ka0_5 ka1_5; have Cb6 := Lib.hid (Cb5.out.below hb); have kb0_6 := Cb6.out.c0; have kb1_6 := Cb6.out.c1; clear kb0_5 kb1_5; have Cs6 := Lib.hid (Cs5.out.below hb); have ks0_6 := Cs6.out.c0; have ks1_6 := Cs6.out.c1; clear ks0_5 ks1_5; have Is6 := Lib.hid (Is5.out.below hb); clear hb))
    | (go_at_call 15; ((with_reducible refine (HJ1.out _ B6.out).mono ?_); rintro x u7 ⟨Ac, cc, rfl, hin, hb⟩; have ha := bel1 u7 (.cells #[.int .u8 W, .slice Ac L.length cc] 24); have B7 := Lib.hid (bt (bt B6.out hb) ha); have Ca7 := Lib.hid ((Ca6.out.below hb).below ha); have ka0_7 := Ca7.out.c0; have ka1_7 := Ca7.out.c1; clear ka0_6 ka1_6; have Cb7 := Lib.hid ((Cb6.out.below hb).below ha); have kb0_7 := Cb7.out.c0; have kb1_7 := Cb7.out.c1; clear kb0_6 kb1_6; have Cs7 := Lib.hid ((Cs6.out.below hb).below ha); have ks0_7 := Cs7.out.c0; have ks1_7 := Cs7.out.c1; clear ks0_6 ks1_6; have Is7 := Lib.hid ((Is6.out.below hb).below ha); have Cc7 := Lib.hid (CalAt.new (we := W) (c := cc) hin.rd); have kc0_7 := Cc7.out.c0; have kc1_7 := Cc7.out.c1; have Ic7 := Lib.hid (hin.below ha); clear hb ha hin))
    | (go_at_call 15; ((with_reducible refine (HJ2.out _ B7.out).mono ?_); rintro x u8 ⟨Ad, cd, rfl, hin, hb⟩; have ha := bel1 u8 (.cells #[.int .u8 W, .slice Ad L.length cd] 24); have B8 := Lib.hid (bt (bt B7.out hb) ha); have Ca8 := Lib.hid ((Ca7.out.below hb).below ha); have ka0_8 := Ca8.out.c0; have ka1_8 := Ca8.out.c1; clear ka0_7 ka1_7; have Cb8 := Lib.hid ((Cb7.out.below hb).below ha); have kb0_8 := Cb8.out.c0; have kb1_8 := Cb8.out.c1; clear kb0_7 kb1_7; have Cs8 := Lib.hid ((Cs7.out.below hb).below ha); have ks0_8 := Cs8.out.c0; have ks1_8 := Cs8.out.c1; clear ks0_7 ks1_7; have Cc8 := Lib.hid ((Cc7.out.below hb).below ha); have kc0_8 := Cc8.out.c0; have kc1_8 := Cc8.out.c1; clear kc0_7 kc1_7; have Is8 := Lib.hid ((Is7.out.below hb).below ha); have Ic8 := Lib.hid ((Ic7.out.below hb).below ha); have Cd8 := Lib.hid (CalAt.new (we := W) (c := cd) hin.rd); have kd0_8 := Cd8.out.c0; have kd1_8 := Cd8.out.c1; have Id8 := Lib.hid (hin.below ha); clear hb ha hin))
    | (go_at_call 18; ((with_reducible refine (HS.out _ _ _ _ _ Ic8.out Id8.out).mono ?_); rintro x u9 ⟨rfl, hb⟩; have B9 := Lib.hid (bt B8.out hb); have Ca9 := Lib.hid (Ca8.out.below hb); have ka0_9 := Ca9.out.c0; have ka1_9 := Ca9.out.c1; clear ka0_8 ka1_8; have Cb9 := Lib.hid (Cb8.out.below hb); have kb0_9 := Cb9.out.c0; have kb1_9 := Cb9.out.c1; clear kb0_8 kb1_8; have Cs9 := Lib.hid (Cs8.out.below hb); have ks0_9 := Cs9.out.c0; have ks1_9 := Cs9.out.c1; clear ks0_8 ks1_8; have Cc9 := Lib.hid (Cc8.out.below hb); have kc0_9 := Cc9.out.c0; have kc1_9 := Cc9.out.c1; clear kc0_8 kc1_8; have Cd9 := Lib.hid (Cd8.out.below hb); have kd0_9 := Cd9.out.c0; have kd1_9 := Cd9.out.c1; clear kd0_8 kd1_8; have Is9 := Lib.hid (Is8.out.below hb); have Ic9 := Lib.hid (Ic8.out.below hb); have Id9 := Lib.hid (Id8.out.below hb); clear hb))
    | (go_at_call 11; ((with_reducible refine (HB1.out _ B9.out).mono ?_); rintro x u10 ⟨rfl, hb⟩; have B10 := Lib.hid (bt B9.out hb); have Ca10 := Lib.hid (Ca9.out.below hb); have ka0_10 := Ca10.out.c0; have ka1_10 := Ca10.out.c1; clear ka0_9 ka1_9; have Cb10 := Lib.hid (Cb9.out.below hb); have kb0_10 := Cb10.out.c0; have kb1_10 := Cb10.out.c1; clear kb0_9 kb1_9; have Cs10 := Lib.hid (Cs9.out.below hb); have ks0_10 := Cs10.out.c0; have ks1_10 := Cs10.out.c1; clear ks0_9 ks1_9; have Cc10 := Lib.hid (Cc9.out.below hb); have kc0_10 := Cc10.out.c0; have kc1_10 := Cc10.out.c1; clear kc0_9 kc1_9; have Cd10 := Lib.hid (Cd9.out.below hb); have kd0_10 := Cd10.out.c0; have kd1_10 := Cd10.out.c1; clear kd0_9 kd1_9; have Is10 := Lib.hid (Is9.out.below hb); have Ic10 := Lib.hid (Ic9.out.below hb); have Id10 := Lib.hid (Id9.out.below hb); clear hb))
    | (go_at_call 11; ((with_reducible refine (HB2.out _ B10.out).mono ?_); rintro x u11 ⟨rfl, hb⟩; have B11 := Lib.hid (bt B10.out hb); have Ca11 := Lib.hid (Ca10.out.below hb); have ka0_11 := Ca11.out.c0; have ka1_11 := Ca11.out.c1; clear ka0_10 ka1_10; have Cb11 := Lib.hid (Cb10.out.below hb); have kb0_11 := Cb11.out.c0; have kb1_11 := Cb11.out.c1; clear kb0_10 kb1_10; have Cs11 := Lib.hid (Cs10.out.below hb); have ks0_11 := Cs11.out.c0; have ks1_11 := Cs11.out.c1; clear ks0_10 ks1_10; have Cc11 := Lib.hid (Cc10.out.below hb); have kc0_11 := Cc11.out.c0; have kc1_11 := Cc11.out.c1; clear kc0_10 kc1_10; have Cd11 := Lib.hid (Cd10.out.below hb); have kd0_11 := Cd11.out.c0; have kd1_11 := Cd11.out.c1; clear kd0_10 kd1_10; have Is11 := Lib.hid (Is10.out.below hb); have Ic11 := Lib.hid (Ic10.out.below hb); have Id11 := Lib.hid (Id10.out.below hb); clear hb))
    | (go_at_call 11; ((with_reducible refine (HB3.out _ _ _ Ic11.out).mono ?_); rintro x u12 ⟨rfl, hb⟩; have B12 := Lib.hid (bt B11.out hb); clear hb)))
  go_ret
  exact ⟨rfl, B12.out⟩

set_option maxRecDepth 100000 in
set_option maxHeartbeats 3200000 in
theorem joins_tf (we1 : Int) (A1 : Option Addr) (c1 : Nat) (hs1 : List Int) (we2 : Int) (A2 : Option Addr) (c2 : Nat) (hs2 : List Int) (day : Int) (W e : Int) (L : List Int) (w : World) (h1 : CalIn w we1 A1 c1 hs1) (h2 : CalIn w we2 A2 c2 hs2) (hV : VarS w)
    (hg1 : ∀ w', Below w.heap.size w w' → GrtS we1 A1 c1 hs1 false w') (hg2 : ∀ w', Below w.heap.size w w' → GrtS we2 A2 c2 hs2 false w') (hj0 : ∀ w', Below w.heap.size w w' → JonS we1 A1 c1 hs1 we1 A1 c1 hs1 we1 hs1 0 w') (hc : ∀ w', Below w.heap.size w w' → ChkS we1 A1 c1 hs1 0 w') (hs0 : ∀ w' A c, CalIn w' we1 A c hs1 → CalIn w' we1 A1 c1 hs1 → SmeS we1 A c hs1 we1 A1 c1 hs1 true w') (hj1 : ∀ w', Below w.heap.size w w' → JonS we1 A1 c1 hs1 we2 A2 c2 hs2 W L 0 w') (hj2 : ∀ w', Below w.heap.size w w' → JonS we2 A2 c2 hs2 we1 A1 c1 hs1 W L 0 w') (hs : ∀ w' A c A' c', CalIn w' W A c L → CalIn w' W A' c' L → SmeS W A c L W A' c' L true w') (hb1 : ∀ w', Below w.heap.size w w' → BusS we1 A1 c1 hs1 day true e w') (hy2 : ∀ w', Below w.heap.size w w' → BusS we2 A2 c2 hs2 day false e w') (hb3 : ∀ w' A c, CalIn w' W A c L → BusS W A c L day false e w') :
    Calls Tryd.prog 9 #[.agg #[.int .u8 we1, .slice A1 hs1.length c1], .agg #[.int .u8 we2, .slice A2 hs2.length c2], .int .i64 day] w fun e w' => e = .returned (.bool true) ∧ Below w.heap.size w w' := by
  obtain ⟨W2, hW2⟩ : ∃ W2, (w.alloc (.cells #[.int .u8 we1, .slice A1 hs1.length c1] 24)).alloc (.cells #[.int .u8 we2, .slice A2 hs2.length c2] 24) = W2 := ⟨_, rfl⟩
  have hb2 : Below w.heap.size w W2 := by rw [← hW2]; exact bel2 _ _ _
  have hC1 : CalAt W2 w.heap.size we1 A1 c1 hs1 := by rw [← hW2]; exact (CalAt.new h1.rd).below (bel1 _ _)
  have hC2 : CalAt W2 (w.heap.size + 1) we2 A2 c2 hs2 := by
    have := CalAt.new (we := we2) (c := c2) (h2.rd.below (bel1 w (.cells #[.int .u8 we1, .slice A1 hs1.length c1] 24)))
    rw [World.size_alloc] at this
    rw [← hW2]; exact this
  have B0 := Lib.hid hb2
  have Ca0 := Lib.hid hC1
  have Cb0 := Lib.hid hC2
  have HL : Hid (∀ w', Below w.heap.size w w' → Calls _ _ _ _ _) := fun w' hb => calive_any w' (hV.below hb)
  have HG1 : Hid (∀ w', Below w.heap.size w w' → Calls _ _ _ _ _) := hg1
  have HG2 : Hid (∀ w', Below w.heap.size w w' → Calls _ _ _ _ _) := hg2
  have HJ0 : Hid (∀ w', Below w.heap.size w w' → Calls _ _ _ _ _) := hj0
  have HC : Hid (∀ w', Below w.heap.size w w' → Calls _ _ _ _ _) := hc
  have HS0 : Hid (∀ w' (A : Option Addr) (c : Nat), CalIn w' _ A c _ → CalIn w' _ _ _ _ → Calls _ _ _ _ _) := hs0
  have HJ1 : Hid (∀ w', Below w.heap.size w w' → Calls _ _ _ _ _) := hj1
  have HJ2 : Hid (∀ w', Below w.heap.size w w' → Calls _ _ _ _ _) := hj2
  have HS : Hid (∀ w' (A : Option Addr) (c : Nat) (A' : Option Addr) (c' : Nat), CalIn w' _ A c _ → CalIn w' _ A' c' _ → Calls _ _ _ _ _) := hs
  have HB1 : Hid (∀ w', Below w.heap.size w w' → Calls _ _ _ _ _) := hb1
  have HB2 : Hid (∀ w', Below w.heap.size w w' → Calls _ _ _ _ _) := hy2
  have HB3 : Hid (∀ w' (A : Option Addr) (c : Nat), CalIn w' _ A c _ → Calls _ _ _ _ _) := hb3
  have H1 := Lib.hid h1
  have ka0 := hC1.c0
  have ka1 := hC1.c1
  have kb0 := hC2.c0
  have kb1 := hC2.c1
  clear h1 h2 hV hC1 hC2 hb2 hg1 hg2 hj0 hc hs0 hj1 hj2 hs hb1 hy2 hb3
  have he4 : (e == e) = true := by simp
  have he3 : (e != e) = false := by simp
  go_enter Tryd.func9, Tryd.ntmps9
  go_wp2_with (first
    | (go_at_call 17; ((with_reducible refine (HL.out _ B0.out).mono ?_); rintro x u1 ⟨rfl, hb⟩; have B1 := Lib.hid (bt B0.out hb); have Ca1 := Lib.hid (Ca0.out.below hb); have ka0_1 := Ca1.out.c0; have ka1_1 := Ca1.out.c1; clear ka0 ka1; have Cb1 := Lib.hid (Cb0.out.below hb); have kb0_1 := Cb1.out.c0; have kb1_1 := Cb1.out.c1; clear kb0 kb1; clear hb))
    | (go_at_call 19; ((with_reducible refine (HG1.out _ B1.out).mono ?_); rintro x u2 ⟨rfl, hb⟩; have B2 := Lib.hid (bt B1.out hb); have Ca2 := Lib.hid (Ca1.out.below hb); have ka0_2 := Ca2.out.c0; have ka1_2 := Ca2.out.c1; clear ka0_1 ka1_1; have Cb2 := Lib.hid (Cb1.out.below hb); have kb0_2 := Cb2.out.c0; have kb1_2 := Cb2.out.c1; clear kb0_1 kb1_1; clear hb))
    | (go_at_call 19; ((with_reducible refine (HG2.out _ B2.out).mono ?_); rintro x u3 ⟨rfl, hb⟩; have B3 := Lib.hid (bt B2.out hb); have Ca3 := Lib.hid (Ca2.out.below hb); have ka0_3 := Ca3.out.c0; have ka1_3 := Ca3.out.c1; clear ka0_2 ka1_2; have Cb3 := Lib.hid (Cb2.out.below hb); have kb0_3 := Cb3.out.c0; have kb1_3 := Cb3.out.c1; clear kb0_2 kb1_2; clear hb))
    | (go_at_call 15; ((with_reducible refine (HJ0.out _ B3.out).mono ?_); rintro x u4 ⟨As, cs, rfl, hin, hb⟩; have ha := bel1 u4 (.cells #[.int .u8 we1, .slice As hs1.length cs] 24); have B4 := Lib.hid (bt (bt B3.out hb) ha); have Ca4 := Lib.hid ((Ca3.out.below hb).below ha); have ka0_4 := Ca4.out.c0; have ka1_4 := Ca4.out.c1; clear ka0_3 ka1_3; have Cb4 := Lib.hid ((Cb3.out.below hb).below ha); have kb0_4 := Cb4.out.c0; have kb1_4 := Cb4.out.c1; clear kb0_3 kb1_3; have Cs4 := Lib.hid (CalAt.new (we := we1) (c := cs) hin.rd); have ks0_4 := Cs4.out.c0; have ks1_4 := Cs4.out.c1; have Is4 := Lib.hid (hin.below ha); clear hb ha hin))
    | (go_at_call 16; ((with_reducible refine (HC.out _ B4.out).mono ?_); rintro x u5 ⟨rfl, hb⟩; have B5 := Lib.hid (bt B4.out hb); have Ca5 := Lib.hid (Ca4.out.below hb); have ka0_5 := Ca5.out.c0; have ka1_5 := Ca5.out.c1; clear ka0_4 ka1_4; have Cb5 := Lib.hid (Cb4.out.below hb); have kb0_5 := Cb5.out.c0; have kb1_5 := Cb5.out.c1; clear kb0_4 kb1_4; have Cs5 := Lib.hid (Cs4.out.below hb); have ks0_5 := Cs5.out.c0; have ks1_5 := Cs5.out.c1; clear ks0_4 ks1_4; have Is5 := Lib.hid (Is4.out.below hb); clear hb))
    | (go_at_call 18; ((with_reducible refine (HS0.out _ _ _ Is5.out (H1.out.below B5.out)).mono ?_); rintro x u6 ⟨rfl, hb⟩; have B6 := Lib.hid (bt B5.out hb); have Ca6 := Lib.hid (Ca5.out.below hb); have ka0_6 := Ca6.out.c0; have ka1_6 := Ca6.out.c1; clear ka0_5 ka1_5; have Cb6 := Lib.hid (Cb5.out.below hb); have kb0_6 := Cb6.out.c0; have kb1_6 := Cb6.out.c1; clear kb0_5 kb1_5; have Cs6 := Lib.hid (Cs5.out.below hb); have ks0_6 := Cs6.out.c0; have ks1_6 := Cs6.out.c1; clear ks0_5 ks1_5; have Is6 := Lib.hid (Is5.out.below hb); clear hb))
    | (go_at_call 15; ((with_reducible refine (HJ1.out _ B6.out).mono ?_); rintro x u7 ⟨Ac, cc, rfl, hin, hb⟩; have ha := bel1 u7 (.cells #[.int .u8 W, .slice Ac L.length cc] 24); have B7 := Lib.hid (bt (bt B6.out hb) ha); have Ca7 := Lib.hid ((Ca6.out.below hb).below ha); have ka0_7 := Ca7.out.c0; have ka1_7 := Ca7.out.c1; clear ka0_6 ka1_6; have Cb7 := Lib.hid ((Cb6.out.below hb).below ha); have kb0_7 := Cb7.out.c0; have kb1_7 := Cb7.out.c1; clear kb0_6 kb1_6; have Cs7 := Lib.hid ((Cs6.out.below hb).below ha); have ks0_7 := Cs7.out.c0; have ks1_7 := Cs7.out.c1; clear ks0_6 ks1_6; have Is7 := Lib.hid ((Is6.out.below hb).below ha); have Cc7 := Lib.hid (CalAt.new (we := W) (c := cc) hin.rd); have kc0_7 := Cc7.out.c0; have kc1_7 := Cc7.out.c1; have Ic7 := Lib.hid (hin.below ha); clear hb ha hin))
    | (go_at_call 15; ((with_reducible refine (HJ2.out _ B7.out).mono ?_); rintro x u8 ⟨Ad, cd, rfl, hin, hb⟩; have ha := bel1 u8 (.cells #[.int .u8 W, .slice Ad L.length cd] 24); have B8 := Lib.hid (bt (bt B7.out hb) ha); have Ca8 := Lib.hid ((Ca7.out.below hb).below ha); have ka0_8 := Ca8.out.c0; have ka1_8 := Ca8.out.c1; clear ka0_7 ka1_7; have Cb8 := Lib.hid ((Cb7.out.below hb).below ha); have kb0_8 := Cb8.out.c0; have kb1_8 := Cb8.out.c1; clear kb0_7 kb1_7; have Cs8 := Lib.hid ((Cs7.out.below hb).below ha); have ks0_8 := Cs8.out.c0; have ks1_8 := Cs8.out.c1; clear ks0_7 ks1_7; have Cc8 := Lib.hid ((Cc7.out.below hb).below ha); have kc0_8 := Cc8.out.c0; have kc1_8 := Cc8.out.c1; clear kc0_7 kc1_7; have Is8 := Lib.hid ((Is7.out.below hb).below ha); have Ic8 := Lib.hid ((Ic7.out.below hb).below ha); have Cd8 := Lib.hid (CalAt.new (we := W) (c := cd) hin.rd); have kd0_8 := Cd8.out.c0; have kd1_8 := Cd8.out.c1; have Id8 := Lib.hid (hin.below ha); clear hb ha hin))
    | (go_at_call 18; ((with_reducible refine (HS.out _ _ _ _ _ Ic8.out Id8.out).mono ?_); rintro x u9 ⟨rfl, hb⟩; have B9 := Lib.hid (bt B8.out hb); have Ca9 := Lib.hid (Ca8.out.below hb); have ka0_9 := Ca9.out.c0; have ka1_9 := Ca9.out.c1; clear ka0_8 ka1_8; have Cb9 := Lib.hid (Cb8.out.below hb); have kb0_9 := Cb9.out.c0; have kb1_9 := Cb9.out.c1; clear kb0_8 kb1_8; have Cs9 := Lib.hid (Cs8.out.below hb); have ks0_9 := Cs9.out.c0; have ks1_9 := Cs9.out.c1; clear ks0_8 ks1_8; have Cc9 := Lib.hid (Cc8.out.below hb); have kc0_9 := Cc9.out.c0; have kc1_9 := Cc9.out.c1; clear kc0_8 kc1_8; have Cd9 := Lib.hid (Cd8.out.below hb); have kd0_9 := Cd9.out.c0; have kd1_9 := Cd9.out.c1; clear kd0_8 kd1_8; have Is9 := Lib.hid (Is8.out.below hb); have Ic9 := Lib.hid (Ic8.out.below hb); have Id9 := Lib.hid (Id8.out.below hb); clear hb))
    | (go_at_call 11; ((with_reducible refine (HB1.out _ B9.out).mono ?_); rintro x u10 ⟨rfl, hb⟩; have B10 := Lib.hid (bt B9.out hb); have Ca10 := Lib.hid (Ca9.out.below hb); have ka0_10 := Ca10.out.c0; have ka1_10 := Ca10.out.c1; clear ka0_9 ka1_9; have Cb10 := Lib.hid (Cb9.out.below hb); have kb0_10 := Cb10.out.c0; have kb1_10 := Cb10.out.c1; clear kb0_9 kb1_9; have Cs10 := Lib.hid (Cs9.out.below hb); have ks0_10 := Cs10.out.c0; have ks1_10 := Cs10.out.c1; clear ks0_9 ks1_9; have Cc10 := Lib.hid (Cc9.out.below hb); have kc0_10 := Cc10.out.c0; have kc1_10 := Cc10.out.c1; clear kc0_9 kc1_9; have Cd10 := Lib.hid (Cd9.out.below hb); have kd0_10 := Cd10.out.c0; have kd1_10 := Cd10.out.c1; clear kd0_9 kd1_9; have Is10 := Lib.hid (Is9.out.below hb); have Ic10 := Lib.hid (Ic9.out.below hb); have Id10 := Lib.hid (Id9.out.below hb); clear hb))
    | (go_at_call 11; ((with_reducible refine (HB2.out _ B10.out).mono ?_); rintro x u11 ⟨rfl, hb⟩; have B11 := Lib.hid (bt B10.out hb); have Ca11 := Lib.hid (Ca10.out.below hb); have ka0_11 := Ca11.out.c0; have ka1_11 := Ca11.out.c1; clear ka0_10 ka1_10; have Cb11 := Lib.hid (Cb10.out.below hb); have kb0_11 := Cb11.out.c0; have kb1_11 := Cb11.out.c1; clear kb0_10 kb1_10; have Cs11 := Lib.hid (Cs10.out.below hb); have ks0_11 := Cs11.out.c0; have ks1_11 := Cs11.out.c1; clear ks0_10 ks1_10; have Cc11 := Lib.hid (Cc10.out.below hb); have kc0_11 := Cc11.out.c0; have kc1_11 := Cc11.out.c1; clear kc0_10 kc1_10; have Cd11 := Lib.hid (Cd10.out.below hb); have kd0_11 := Cd11.out.c0; have kd1_11 := Cd11.out.c1; clear kd0_10 kd1_10; have Is11 := Lib.hid (Is10.out.below hb); have Ic11 := Lib.hid (Ic10.out.below hb); have Id11 := Lib.hid (Id10.out.below hb); clear hb))
    | (go_at_call 11; ((with_reducible refine (HB3.out _ _ _ Ic11.out).mono ?_); rintro x u12 ⟨rfl, hb⟩; have B12 := Lib.hid (bt B11.out hb); clear hb)))
  go_ret
  exact ⟨rfl, B12.out⟩

set_option maxRecDepth 100000 in
set_option maxHeartbeats 3200000 in
theorem joins_ft (we1 : Int) (A1 : Option Addr) (c1 : Nat) (hs1 : List Int) (we2 : Int) (A2 : Option Addr) (c2 : Nat) (hs2 : List Int) (day : Int) (W e : Int) (L : List Int) (w : World) (h1 : CalIn w we1 A1 c1 hs1) (h2 : CalIn w we2 A2 c2 hs2) (hV : VarS w)
    (hg1 : ∀ w', Below w.heap.size w w' → GrtS we1 A1 c1 hs1 false w') (hg2 : ∀ w', Below w.heap.size w w' → GrtS we2 A2 c2 hs2 false w') (hj0 : ∀ w', Below w.heap.size w w' → JonS we1 A1 c1 hs1 we1 A1 c1 hs1 we1 hs1 0 w') (hc : ∀ w', Below w.heap.size w w' → ChkS we1 A1 c1 hs1 0 w') (hs0 : ∀ w' A c, CalIn w' we1 A c hs1 → CalIn w' we1 A1 c1 hs1 → SmeS we1 A c hs1 we1 A1 c1 hs1 true w') (hj1 : ∀ w', Below w.heap.size w w' → JonS we1 A1 c1 hs1 we2 A2 c2 hs2 W L 0 w') (hj2 : ∀ w', Below w.heap.size w w' → JonS we2 A2 c2 hs2 we1 A1 c1 hs1 W L 0 w') (hs : ∀ w' A c A' c', CalIn w' W A c L → CalIn w' W A' c' L → SmeS W A c L W A' c' L true w') (hb1 : ∀ w', Below w.heap.size w w' → BusS we1 A1 c1 hs1 day false e w') (hy2 : ∀ w', Below w.heap.size w w' → BusS we2 A2 c2 hs2 day true e w') (hb3 : ∀ w' A c, CalIn w' W A c L → BusS W A c L day false e w') :
    Calls Tryd.prog 9 #[.agg #[.int .u8 we1, .slice A1 hs1.length c1], .agg #[.int .u8 we2, .slice A2 hs2.length c2], .int .i64 day] w fun e w' => e = .returned (.bool true) ∧ Below w.heap.size w w' := by
  obtain ⟨W2, hW2⟩ : ∃ W2, (w.alloc (.cells #[.int .u8 we1, .slice A1 hs1.length c1] 24)).alloc (.cells #[.int .u8 we2, .slice A2 hs2.length c2] 24) = W2 := ⟨_, rfl⟩
  have hb2 : Below w.heap.size w W2 := by rw [← hW2]; exact bel2 _ _ _
  have hC1 : CalAt W2 w.heap.size we1 A1 c1 hs1 := by rw [← hW2]; exact (CalAt.new h1.rd).below (bel1 _ _)
  have hC2 : CalAt W2 (w.heap.size + 1) we2 A2 c2 hs2 := by
    have := CalAt.new (we := we2) (c := c2) (h2.rd.below (bel1 w (.cells #[.int .u8 we1, .slice A1 hs1.length c1] 24)))
    rw [World.size_alloc] at this
    rw [← hW2]; exact this
  have B0 := Lib.hid hb2
  have Ca0 := Lib.hid hC1
  have Cb0 := Lib.hid hC2
  have HL : Hid (∀ w', Below w.heap.size w w' → Calls _ _ _ _ _) := fun w' hb => calive_any w' (hV.below hb)
  have HG1 : Hid (∀ w', Below w.heap.size w w' → Calls _ _ _ _ _) := hg1
  have HG2 : Hid (∀ w', Below w.heap.size w w' → Calls _ _ _ _ _) := hg2
  have HJ0 : Hid (∀ w', Below w.heap.size w w' → Calls _ _ _ _ _) := hj0
  have HC : Hid (∀ w', Below w.heap.size w w' → Calls _ _ _ _ _) := hc
  have HS0 : Hid (∀ w' (A : Option Addr) (c : Nat), CalIn w' _ A c _ → CalIn w' _ _ _ _ → Calls _ _ _ _ _) := hs0
  have HJ1 : Hid (∀ w', Below w.heap.size w w' → Calls _ _ _ _ _) := hj1
  have HJ2 : Hid (∀ w', Below w.heap.size w w' → Calls _ _ _ _ _) := hj2
  have HS : Hid (∀ w' (A : Option Addr) (c : Nat) (A' : Option Addr) (c' : Nat), CalIn w' _ A c _ → CalIn w' _ A' c' _ → Calls _ _ _ _ _) := hs
  have HB1 : Hid (∀ w', Below w.heap.size w w' → Calls _ _ _ _ _) := hb1
  have HB2 : Hid (∀ w', Below w.heap.size w w' → Calls _ _ _ _ _) := hy2
  have HB3 : Hid (∀ w' (A : Option Addr) (c : Nat), CalIn w' _ A c _ → Calls _ _ _ _ _) := hb3
  have H1 := Lib.hid h1
  have ka0 := hC1.c0
  have ka1 := hC1.c1
  have kb0 := hC2.c0
  have kb1 := hC2.c1
  clear h1 h2 hV hC1 hC2 hb2 hg1 hg2 hj0 hc hs0 hj1 hj2 hs hb1 hy2 hb3
  have he4 : (e == e) = true := by simp
  have he3 : (e != e) = false := by simp
  go_enter Tryd.func9, Tryd.ntmps9
  go_wp2_with (first
    | (go_at_call 17; ((with_reducible refine (HL.out _ B0.out).mono ?_); rintro x u1 ⟨rfl, hb⟩; have B1 := Lib.hid (bt B0.out hb); have Ca1 := Lib.hid (Ca0.out.below hb); have ka0_1 := Ca1.out.c0; have ka1_1 := Ca1.out.c1; clear ka0 ka1; have Cb1 := Lib.hid (Cb0.out.below hb); have kb0_1 := Cb1.out.c0; have kb1_1 := Cb1.out.c1; clear kb0 kb1; clear hb))
    | (go_at_call 19; ((with_reducible refine (HG1.out _ B1.out).mono ?_); rintro x u2 ⟨rfl, hb⟩; have B2 := Lib.hid (bt B1.out hb); have Ca2 := Lib.hid (Ca1.out.below hb); have ka0_2 := Ca2.out.c0; have ka1_2 := Ca2.out.c1; clear ka0_1 ka1_1; have Cb2 := Lib.hid (Cb1.out.below hb); have kb0_2 := Cb2.out.c0; have kb1_2 := Cb2.out.c1; clear kb0_1 kb1_1; clear hb))
    | (go_at_call 19; ((with_reducible refine (HG2.out _ B2.out).mono ?_); rintro x u3 ⟨rfl, hb⟩; have B3 := Lib.hid (bt B2.out hb); have Ca3 := Lib.hid (Ca2.out.below hb); have ka0_3 := Ca3.out.c0; have ka1_3 := Ca3.out.c1; clear ka0_2 ka1_2; have Cb3 := Lib.hid (Cb2.out.below hb); have kb0_3 := Cb3.out.c0; have kb1_3 := Cb3.out.c1; clear kb0_2 kb1_2; clear hb))
    | (go_at_call 15; ((with_reducible refine (HJ0.out _ B3.out).mono ?_); rintro x u4 ⟨As, cs, rfl, hin, hb⟩; have ha := bel1 u4 (.cells #[.int .u8 we1, .slice As hs1.length cs] 24); have B4 := Lib.hid (bt (bt B3.out hb) ha); have Ca4 := Lib.hid ((Ca3.out.below hb).below ha); have ka0_4 := Ca4.out.c0; have ka1_4 := Ca4.out.c1; clear ka0_3 ka1_3; have Cb4 := Lib.hid ((Cb3.out.below hb).below ha); have kb0_4 := Cb4.out.c0; have kb1_4 := Cb4.out.c1; clear kb0_3 kb1_3; have Cs4 := Lib.hid (CalAt.new (we := we1) (c := cs) hin.rd); have ks0_4 := Cs4.out.c0; have ks1_4 := Cs4.out.c1; have Is4 := Lib.hid (hin.below ha); clear hb ha hin))
    | (go_at_call 16; ((with_reducible refine (HC.out _ B4.out).mono ?_); rintro x u5 ⟨rfl, hb⟩; have B5 := Lib.hid (bt B4.out hb); have Ca5 := Lib.hid (Ca4.out.below hb); have ka0_5 := Ca5.out.c0; have ka1_5 := Ca5.out.c1; clear ka0_4 ka1_4; have Cb5 := Lib.hid (Cb4.out.below hb); have kb0_5 := Cb5.out.c0; have kb1_5 := Cb5.out.c1; clear kb0_4 kb1_4; have Cs5 := Lib.hid (Cs4.out.below hb); have ks0_5 := Cs5.out.c0; have ks1_5 := Cs5.out.c1; clear ks0_4 ks1_4; have Is5 := Lib.hid (Is4.out.below hb); clear hb))
    | (go_at_call 18; ((with_reducible refine (HS0.out _ _ _ Is5.out (H1.out.below B5.out)).mono ?_); rintro x u6 ⟨rfl, hb⟩; have B6 := Lib.hid (bt B5.out hb); have Ca6 := Lib.hid (Ca5.out.below hb); have ka0_6 := Ca6.out.c0; have ka1_6 := Ca6.out.c1; clear ka0_5 ka1_5; have Cb6 := Lib.hid (Cb5.out.below hb); have kb0_6 := Cb6.out.c0; have kb1_6 := Cb6.out.c1; clear kb0_5 kb1_5; have Cs6 := Lib.hid (Cs5.out.below hb); have ks0_6 := Cs6.out.c0; have ks1_6 := Cs6.out.c1; clear ks0_5 ks1_5; have Is6 := Lib.hid (Is5.out.below hb); clear hb))
    | (go_at_call 15; ((with_reducible refine (HJ1.out _ B6.out).mono ?_); rintro x u7 ⟨Ac, cc, rfl, hin, hb⟩; have ha := bel1 u7 (.cells #[.int .u8 W, .slice Ac L.length cc] 24); have B7 := Lib.hid (bt (bt B6.out hb) ha); have Ca7 := Lib.hid ((Ca6.out.below hb).below ha); have ka0_7 := Ca7.out.c0; have ka1_7 := Ca7.out.c1; clear ka0_6 ka1_6; have Cb7 := Lib.hid ((Cb6.out.below hb).below ha); have kb0_7 := Cb7.out.c0; have kb1_7 := Cb7.out.c1; clear kb0_6 kb1_6; have Cs7 := Lib.hid ((Cs6.out.below hb).below ha); have ks0_7 := Cs7.out.c0; have ks1_7 := Cs7.out.c1; clear ks0_6 ks1_6; have Is7 := Lib.hid ((Is6.out.below hb).below ha); have Cc7 := Lib.hid (CalAt.new (we := W) (c := cc) hin.rd); have kc0_7 := Cc7.out.c0; have kc1_7 := Cc7.out.c1; have Ic7 := Lib.hid (hin.below ha); clear hb ha hin))
    | (go_at_call 15; ((with_reducible refine (HJ2.out _ B7.out).mono ?_); rintro x u8 ⟨Ad, cd, rfl, hin, hb⟩; have ha := bel1 u8 (.cells #[.int .u8 W, .slice Ad L.length cd] 24); have B8 := Lib.hid (bt (bt B7.out hb) ha); have Ca8 := Lib.hid ((Ca7.out.below hb).below ha); have ka0_8 := Ca8.out.c0; have ka1_8 := Ca8.out.c1; clear ka0_7 ka1_7; have Cb8 := Lib.hid ((Cb7.out.below hb).below ha); have kb0_8 := Cb8.out.c0; have kb1_8 := Cb8.out.c1; clear kb0_7 kb1_7; have Cs8 := Lib.hid ((Cs7.out.below hb).below ha); have ks0_8 := Cs8.out.c0; have ks1_8 := Cs8.out.c1; clear ks0_7 ks1_7; have Cc8 := Lib.hid ((Cc7.out.below hb).below ha); have kc0_8 := Cc8.out.c0; have kc1_8 := Cc8.out.c1; clear kc0_7 kc1_7; have Is8 := Lib.hid ((Is7.out.below hb).below ha); have Ic8 := Lib.hid ((Ic7.out.below hb).below ha); have Cd8 := Lib.hid (CalAt.new (we := W) (c := cd) hin.rd); have kd0_8 := Cd8.out.c0; have kd1_8 := Cd8.out.c1; have Id8 := Lib.hid (hin.below ha); clear hb ha hin))
    | (go_at_call 18; ((with_reducible refine (HS.out _ _ _ _ _ Ic8.out Id8.out).mono ?_); rintro x u9 ⟨rfl, hb⟩; have B9 := Lib.hid (bt B8.out hb); have Ca9 := Lib.hid (Ca8.out.below hb); have ka0_9 := Ca9.out.c0; have ka1_9 := Ca9.out.c1; clear ka0_8 ka1_8; have Cb9 := Lib.hid (Cb8.out.below hb); have kb0_9 := Cb9.out.c0; have kb1_9 := Cb9.out.c1; clear kb0_8 kb1_8; have Cs9 := Lib.hid (Cs8.out.below hb); have ks0_9 := Cs9.out.c0; have ks1_9 := Cs9.out.c1; clear ks0_8 ks1_8; have Cc9 := Lib.hid (Cc8.out.below hb); have kc0_9 := Cc9.out.c0; have kc1_9 := Cc9.out.c1; clear kc0_8 kc1_8; have Cd9 := Lib.hid (Cd8.out.below hb); have kd0_9 := Cd9.out.c0; have kd1_9 := Cd9.out.c1; clear kd0_8 kd1_8; have Is9 := Lib.hid (Is8.out.below hb); have Ic9 := Lib.hid (Ic8.out.below hb); have Id9 := Lib.hid (Id8.out.below hb); clear hb))
    | (go_at_call 11; ((with_reducible refine (HB1.out _ B9.out).mono ?_); rintro x u10 ⟨rfl, hb⟩; have B10 := Lib.hid (bt B9.out hb); have Ca10 := Lib.hid (Ca9.out.below hb); have ka0_10 := Ca10.out.c0; have ka1_10 := Ca10.out.c1; clear ka0_9 ka1_9; have Cb10 := Lib.hid (Cb9.out.below hb); have kb0_10 := Cb10.out.c0; have kb1_10 := Cb10.out.c1; clear kb0_9 kb1_9; have Cs10 := Lib.hid (Cs9.out.below hb); have ks0_10 := Cs10.out.c0; have ks1_10 := Cs10.out.c1; clear ks0_9 ks1_9; have Cc10 := Lib.hid (Cc9.out.below hb); have kc0_10 := Cc10.out.c0; have kc1_10 := Cc10.out.c1; clear kc0_9 kc1_9; have Cd10 := Lib.hid (Cd9.out.below hb); have kd0_10 := Cd10.out.c0; have kd1_10 := Cd10.out.c1; clear kd0_9 kd1_9; have Is10 := Lib.hid (Is9.out.below hb); have Ic10 := Lib.hid (Ic9.out.below hb); have Id10 := Lib.hid (Id9.out.below hb); clear hb))
    | (go_at_call 11; ((with_reducible refine (HB2.out _ B10.out).mono ?_); rintro x u11 ⟨rfl, hb⟩; have B11 := Lib.hid (bt B10.out hb); have Ca11 := Lib.hid (Ca10.out.below hb); have ka0_11 := Ca11.out.c0; have ka1_11 := Ca11.out.c1; clear ka0_10 ka1_10; have Cb11 := Lib.hid (Cb10.out.below hb); have kb0_11 := Cb11.out.c0; have kb1_11 := Cb11.out.c1; clear kb0_10 kb1_10; have Cs11 := Lib.hid (Cs10.out.below hb); have ks0_11 := Cs11.out.c0; have ks1_11 := Cs11.out.c1; clear ks0_10 ks1_10; have Cc11 := Lib.hid (Cc10.out.below hb); have kc0_11 := Cc11.out.c0; have kc1_11 := Cc11.out.c1; clear kc0_10 kc1_10; have Cd11 := Lib.hid (Cd10.out.below hb); have kd0_11 := Cd11.out.c0; have kd1_11 := Cd11.out.c1; clear kd0_10 kd1_10; have Is11 := Lib.hid (Is10.out.below hb); have Ic11 := Lib.hid (Ic10.out.below hb); have Id11 := Lib.hid (Id10.out.below hb); clear hb))
    | (go_at_call 11; ((with_reducible refine (HB3.out _ _ _ Ic11.out).mono ?_); rintro x u12 ⟨rfl, hb⟩; have B12 := Lib.hid (bt B11.out hb); clear hb)))
  go_ret
  exact ⟨rfl, B12.out⟩

set_option maxRecDepth 100000 in
set_option maxHeartbeats 3200000 in
theorem joins_ff (we1 : Int) (A1 : Option Addr) (c1 : Nat) (hs1 : List Int) (we2 : Int) (A2 : Option Addr) (c2 : Nat) (hs2 : List Int) (day : Int) (W e : Int) (L : List Int) (w : World) (h1 : CalIn w we1 A1 c1 hs1) (h2 : CalIn w we2 A2 c2 hs2) (hV : VarS w)
    (hg1 : ∀ w', Below w.heap.size w w' → GrtS we1 A1 c1 hs1 false w') (hg2 : ∀ w', Below w.heap.size w w' → GrtS we2 A2 c2 hs2 false w') (hj0 : ∀ w', Below w.heap.size w w' → JonS we1 A1 c1 hs1 we1 A1 c1 hs1 we1 hs1 0 w') (hc : ∀ w', Below w.heap.size w w' → ChkS we1 A1 c1 hs1 0 w') (hs0 : ∀ w' A c, CalIn w' we1 A c hs1 → CalIn w' we1 A1 c1 hs1 → SmeS we1 A c hs1 we1 A1 c1 hs1 true w') (hj1 : ∀ w', Below w.heap.size w w' → JonS we1 A1 c1 hs1 we2 A2 c2 hs2 W L 0 w') (hj2 : ∀ w', Below w.heap.size w w' → JonS we2 A2 c2 hs2 we1 A1 c1 hs1 W L 0 w') (hs : ∀ w' A c A' c', CalIn w' W A c L → CalIn w' W A' c' L → SmeS W A c L W A' c' L true w') (hb1 : ∀ w', Below w.heap.size w w' → BusS we1 A1 c1 hs1 day false e w') (hy2 : ∀ w', Below w.heap.size w w' → BusS we2 A2 c2 hs2 day false e w') (hb3 : ∀ w' A c, CalIn w' W A c L → BusS W A c L day false e w') :
    Calls Tryd.prog 9 #[.agg #[.int .u8 we1, .slice A1 hs1.length c1], .agg #[.int .u8 we2, .slice A2 hs2.length c2], .int .i64 day] w fun e w' => e = .returned (.bool true) ∧ Below w.heap.size w w' := by
  obtain ⟨W2, hW2⟩ : ∃ W2, (w.alloc (.cells #[.int .u8 we1, .slice A1 hs1.length c1] 24)).alloc (.cells #[.int .u8 we2, .slice A2 hs2.length c2] 24) = W2 := ⟨_, rfl⟩
  have hb2 : Below w.heap.size w W2 := by rw [← hW2]; exact bel2 _ _ _
  have hC1 : CalAt W2 w.heap.size we1 A1 c1 hs1 := by rw [← hW2]; exact (CalAt.new h1.rd).below (bel1 _ _)
  have hC2 : CalAt W2 (w.heap.size + 1) we2 A2 c2 hs2 := by
    have := CalAt.new (we := we2) (c := c2) (h2.rd.below (bel1 w (.cells #[.int .u8 we1, .slice A1 hs1.length c1] 24)))
    rw [World.size_alloc] at this
    rw [← hW2]; exact this
  have B0 := Lib.hid hb2
  have Ca0 := Lib.hid hC1
  have Cb0 := Lib.hid hC2
  have HL : Hid (∀ w', Below w.heap.size w w' → Calls _ _ _ _ _) := fun w' hb => calive_any w' (hV.below hb)
  have HG1 : Hid (∀ w', Below w.heap.size w w' → Calls _ _ _ _ _) := hg1
  have HG2 : Hid (∀ w', Below w.heap.size w w' → Calls _ _ _ _ _) := hg2
  have HJ0 : Hid (∀ w', Below w.heap.size w w' → Calls _ _ _ _ _) := hj0
  have HC : Hid (∀ w', Below w.heap.size w w' → Calls _ _ _ _ _) := hc
  have HS0 : Hid (∀ w' (A : Option Addr) (c : Nat), CalIn w' _ A c _ → CalIn w' _ _ _ _ → Calls _ _ _ _ _) := hs0
  have HJ1 : Hid (∀ w', Below w.heap.size w w' → Calls _ _ _ _ _) := hj1
  have HJ2 : Hid (∀ w', Below w.heap.size w w' → Calls _ _ _ _ _) := hj2
  have HS : Hid (∀ w' (A : Option Addr) (c : Nat) (A' : Option Addr) (c' : Nat), CalIn w' _ A c _ → CalIn w' _ A' c' _ → Calls _ _ _ _ _) := hs
  have HB1 : Hid (∀ w', Below w.heap.size w w' → Calls _ _ _ _ _) := hb1
  have HB2 : Hid (∀ w', Below w.heap.size w w' → Calls _ _ _ _ _) := hy2
  have HB3 : Hid (∀ w' (A : Option Addr) (c : Nat), CalIn w' _ A c _ → Calls _ _ _ _ _) := hb3
  have H1 := Lib.hid h1
  have ka0 := hC1.c0
  have ka1 := hC1.c1
  have kb0 := hC2.c0
  have kb1 := hC2.c1
  clear h1 h2 hV hC1 hC2 hb2 hg1 hg2 hj0 hc hs0 hj1 hj2 hs hb1 hy2 hb3
  have he4 : (e == e) = true := by simp
  have he3 : (e != e) = false := by simp
  go_enter Tryd.func9, Tryd.ntmps9
  go_wp2_with (first
    | (go_at_call 17; ((with_reducible refine (HL.out _ B0.out).mono ?_); rintro x u1 ⟨rfl, hb⟩; have B1 := Lib.hid (bt B0.out hb); have Ca1 := Lib.hid (Ca0.out.below hb); have ka0_1 := Ca1.out.c0; have ka1_1 := Ca1.out.c1; clear ka0 ka1; have Cb1 := Lib.hid (Cb0.out.below hb); have kb0_1 := Cb1.out.c0; have kb1_1 := Cb1.out.c1; clear kb0 kb1; clear hb))
    | (go_at_call 19; ((with_reducible refine (HG1.out _ B1.out).mono ?_); rintro x u2 ⟨rfl, hb⟩; have B2 := Lib.hid (bt B1.out hb); have Ca2 := Lib.hid (Ca1.out.below hb); have ka0_2 := Ca2.out.c0; have ka1_2 := Ca2.out.c1; clear ka0_1 ka1_1; have Cb2 := Lib.hid (Cb1.out.below hb); have kb0_2 := Cb2.out.c0; have kb1_2 := Cb2.out.c1; clear kb0_1 kb1_1; clear hb))
    | (go_at_call 19; ((with_reducible refine (HG2.out _ B2.out).mono ?_); rintro x u3 ⟨rfl, hb⟩; have B3 := Lib.hid (bt B2.out hb); have Ca3 := Lib.hid (Ca2.out.below hb); have ka0_3 := Ca3.out.c0; have ka1_3 := Ca3.out.c1; clear ka0_2 ka1_2; have Cb3 := Lib.hid (Cb2.out.below hb); have kb0_3 := Cb3.out.c0; have kb1_3 := Cb3.out.c1; clear kb0_2 kb1_2; clear hb))
    | (go_at_call 15; ((with_reducible refine (HJ0.out _ B3.out).mono ?_); rintro x u4 ⟨As, cs, rfl, hin, hb⟩; have ha := bel1 u4 (.cells #[.int .u8 we1, .slice As hs1.length cs] 24); have B4 := Lib.hid (bt (bt B3.out hb) ha); have Ca4 := Lib.hid ((Ca3.out.below hb).below ha); have ka0_4 := Ca4.out.c0; have ka1_4 := Ca4.out.c1; clear ka0_3 ka1_3; have Cb4 := Lib.hid ((Cb3.out.below hb).below ha); have kb0_4 := Cb4.out.c0; have kb1_4 := Cb4.out.c1; clear kb0_3 kb1_3; have Cs4 := Lib.hid (CalAt.new (we := we1) (c := cs) hin.rd); have ks0_4 := Cs4.out.c0; have ks1_4 := Cs4.out.c1; have Is4 := Lib.hid (hin.below ha); clear hb ha hin))
    | (go_at_call 16; ((with_reducible refine (HC.out _ B4.out).mono ?_); rintro x u5 ⟨rfl, hb⟩; have B5 := Lib.hid (bt B4.out hb); have Ca5 := Lib.hid (Ca4.out.below hb); have ka0_5 := Ca5.out.c0; have ka1_5 := Ca5.out.c1; clear ka0_4 ka1_4; have Cb5 := Lib.hid (Cb4.out.below hb); have kb0_5 := Cb5.out.c0; have kb1_5 := Cb5.out.c1; clear kb0_4 kb1_4; have Cs5 := Lib.hid (Cs4.out.below hb); have ks0_5 := Cs5.out.c0; have ks1_5 := Cs5.out.c1; clear ks0_4 ks1_4; have Is5 := Lib.hid (Is4.out.below hb); clear hb))
    | (go_at_call 18; ((with_reducible refine (HS0.out _ _ _ Is5.out (H1.out.below B5.out)).mono ?_); rintro x u6 ⟨rfl, hb⟩; have B6 := Lib.hid (bt B5.out hb); have Ca6 := Lib.hid (Ca5.out.below hb); have ka0_6 := Ca6.out.c0; have ka1_6 := Ca6.out.c1; clear ka0_5 ka1_5; have Cb6 := Lib.hid (Cb5.out.below hb); have kb0_6 := Cb6.out.c0; have kb1_6 := Cb6.out.c1; clear kb0_5 kb1_5; have Cs6 := Lib.hid (Cs5.out.below hb); have ks0_6 := Cs6.out.c0; have ks1_6 := Cs6.out.c1; clear ks0_5 ks1_5; have Is6 := Lib.hid (Is5.out.below hb); clear hb))
    | (go_at_call 15; ((with_reducible refine (HJ1.out _ B6.out).mono ?_); rintro x u7 ⟨Ac, cc, rfl, hin, hb⟩; have ha := bel1 u7 (.cells #[.int .u8 W, .slice Ac L.length cc] 24); have B7 := Lib.hid (bt (bt B6.out hb) ha); have Ca7 := Lib.hid ((Ca6.out.below hb).below ha); have ka0_7 := Ca7.out.c0; have ka1_7 := Ca7.out.c1; clear ka0_6 ka1_6; have Cb7 := Lib.hid ((Cb6.out.below hb).below ha); have kb0_7 := Cb7.out.c0; have kb1_7 := Cb7.out.c1; clear kb0_6 kb1_6; have Cs7 := Lib.hid ((Cs6.out.below hb).below ha); have ks0_7 := Cs7.out.c0; have ks1_7 := Cs7.out.c1; clear ks0_6 ks1_6; have Is7 := Lib.hid ((Is6.out.below hb).below ha); have Cc7 := Lib.hid (CalAt.new (we := W) (c := cc) hin.rd); have kc0_7 := Cc7.out.c0; have kc1_7 := Cc7.out.c1; have Ic7 := Lib.hid (hin.below ha); clear hb ha hin))
    | (go_at_call 15; ((with_reducible refine (HJ2.out _ B7.out).mono ?_); rintro x u8 ⟨Ad, cd, rfl, hin, hb⟩; have ha := bel1 u8 (.cells #[.int .u8 W, .slice Ad L.length cd] 24); have B8 := Lib.hid (bt (bt B7.out hb) ha); have Ca8 := Lib.hid ((Ca7.out.below hb).below ha); have ka0_8 := Ca8.out.c0; have ka1_8 := Ca8.out.c1; clear ka0_7 ka1_7; have Cb8 := Lib.hid ((Cb7.out.below hb).below ha); have kb0_8 := Cb8.out.c0; have kb1_8 := Cb8.out.c1; clear kb0_7 kb1_7; have Cs8 := Lib.hid ((Cs7.out.below hb).below ha); have ks0_8 := Cs8.out.c0; have ks1_8 := Cs8.out.c1; clear ks0_7 ks1_7; have Cc8 := Lib.hid ((Cc7.out.below hb).below ha); have kc0_8 := Cc8.out.c0; have kc1_8 := Cc8.out.c1; clear kc0_7 kc1_7; have Is8 := Lib.hid ((Is7.out.below hb).below ha); have Ic8 := Lib.hid ((Ic7.out.below hb).below ha); have Cd8 := Lib.hid (CalAt.new (we := W) (c := cd) hin.rd); have kd0_8 := Cd8.out.c0; have kd1_8 := Cd8.out.c1; have Id8 := Lib.hid (hin.below ha); clear hb ha hin))
    | (go_at_call 18; ((with_reducible refine (HS.out _ _ _ _ _ Ic8.out Id8.out).mono ?_); rintro x u9 ⟨rfl, hb⟩; have B9 := Lib.hid (bt B8.out hb); have Ca9 := Lib.hid (Ca8.out.below hb); have ka0_9 := Ca9.out.c0; have ka1_9 := Ca9.out.c1; clear ka0_8 ka1_8; have Cb9 := Lib.hid (Cb8.out.below hb); have kb0_9 := Cb9.out.c0; have kb1_9 := Cb9.out.c1; clear kb0_8 kb1_8; have Cs9 := Lib.hid (Cs8.out.below hb); have ks0_9 := Cs9.out.c0; have ks1_9 := Cs9.out.c1; clear ks0_8 ks1_8; have Cc9 := Lib.hid (Cc8.out.below hb); have kc0_9 := Cc9.out.c0; have kc1_9 := Cc9.out.c1; clear kc0_8 kc1_8; have Cd9 := Lib.hid (Cd8.out.below hb); have kd0_9 := Cd9.out.c0; have kd1_9 := Cd9.out.c1; clear kd0_8 kd1_8; have Is9 := Lib.hid (Is8.out.below hb); have Ic9 := Lib.hid (Ic8.out.below hb); have Id9 := Lib.hid (Id8.out.below hb); clear hb))
    | (go_at_call 11; ((with_reducible refine (HB1.out _ B9.out).mono ?_); rintro x u10 ⟨rfl, hb⟩; have B10 := Lib.hid (bt B9.out hb); have Ca10 := Lib.hid (Ca9.out.below hb); have ka0_10 := Ca10.out.c0; have ka1_10 := Ca10.out.c1; clear ka0_9 ka1_9; have Cb10 := Lib.hid (Cb9.out.below hb); have kb0_10 := Cb10.out.c0; have kb1_10 := Cb10.out.c1; clear kb0_9 kb1_9; have Cs10 := Lib.hid (Cs9.out.below hb); have ks0_10 := Cs10.out.c0; have ks1_10 := Cs10.out.c1; clear ks0_9 ks1_9; have Cc10 := Lib.hid (Cc9.out.below hb); have kc0_10 := Cc10.out.c0; have kc1_10 := Cc10.out.c1; clear kc0_9 kc1_9; have Cd10 := Lib.hid (Cd9.out.below hb); have kd0_10 := Cd10.out.c0; have kd1_10 := Cd10.out.c1; clear kd0_9 kd1_9; have Is10 := Lib.hid (Is9.out.below hb); have Ic10 := Lib.hid (Ic9.out.below hb); have Id10 := Lib.hid (Id9.out.below hb); clear hb))
    | (go_at_call 11; ((with_reducible refine (HB2.out _ B10.out).mono ?_); rintro x u11 ⟨rfl, hb⟩; have B11 := Lib.hid (bt B10.out hb); have Ca11 := Lib.hid (Ca10.out.below hb); have ka0_11 := Ca11.out.c0; have ka1_11 := Ca11.out.c1; clear ka0_10 ka1_10; have Cb11 := Lib.hid (Cb10.out.below hb); have kb0_11 := Cb11.out.c0; have kb1_11 := Cb11.out.c1; clear kb0_10 kb1_10; have Cs11 := Lib.hid (Cs10.out.below hb); have ks0_11 := Cs11.out.c0; have ks1_11 := Cs11.out.c1; clear ks0_10 ks1_10; have Cc11 := Lib.hid (Cc10.out.below hb); have kc0_11 := Cc11.out.c0; have kc1_11 := Cc11.out.c1; clear kc0_10 kc1_10; have Cd11 := Lib.hid (Cd10.out.below hb); have kd0_11 := Cd11.out.c0; have kd1_11 := Cd11.out.c1; clear kd0_10 kd1_10; have Is11 := Lib.hid (Is10.out.below hb); have Ic11 := Lib.hid (Ic10.out.below hb); have Id11 := Lib.hid (Id10.out.below hb); clear hb))
    | (go_at_call 11; ((with_reducible refine (HB3.out _ _ _ Ic11.out).mono ?_); rintro x u12 ⟨rfl, hb⟩; have B12 := Lib.hid (bt B11.out hb); clear hb)))
  go_ret
  exact ⟨rfl, B12.out⟩
end Go.Proofs.YtgnmcjfocnnffaaDoor

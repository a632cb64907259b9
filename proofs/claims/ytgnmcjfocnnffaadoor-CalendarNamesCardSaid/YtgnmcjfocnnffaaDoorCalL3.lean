/- The walk of the law CalendarSums. -/
import Derived.Test.YtgnmcjfocnnffaaDoorCalK
import Derived.Test.YtgnmcjfocnnffaaDoorCalM
namespace Go.Proofs.YtgnmcjfocnnffaaDoor
open Go Go.RowKit

def CntS (we : Int) (A : Option Addr) (c : Nat) (hs : List Int) (a b v e : Int) (w : World) : Prop := Calls Tryd.prog 14 #[.agg #[.int .u8 we, .slice A hs.length c], .int .i64 a, .int .i64 b] w fun x w' => x = .returned (.tuple #[.int .i64 v, .int .i64 e]) ∧ Below w.heap.size w w'
def GrtS (we : Int) (A : Option Addr) (c : Nat) (hs : List Int) (b : Bool) (w : World) : Prop := Calls Tryd.prog 19 #[.agg #[.int .u8 we, .slice A hs.length c]] w fun x w' => x = .returned (.bool b) ∧ Below w.heap.size w w'

set_option maxRecDepth 100000 in
set_option maxHeartbeats 1600000 in
theorem sums_great (we : Int) (A : Option Addr) (c : Nat) (hs : List Int) (a b d : Int) (w : World) (h : CalIn w we A c hs) (hV : VarS w) (hg : ∀ w', Below w.heap.size w w' → GrtS we A c hs true w') :
    Calls Tryd.prog 8 #[.agg #[.int .u8 we, .slice A hs.length c], .int .i64 a, .int .i64 b, .int .i64 d] w fun e w' => e = .returned (.bool true) ∧ Below w.heap.size w w' := by
  have C1 := Lib.hid (CalAt.new (we := we) (c := c) h.rd)
  have B1 := Lib.hid (bel1 w (.cells #[.int .u8 we, .slice A hs.length c] 24))
  have c0 := C1.out.c0
  have c1 := C1.out.c1
  have HL : Hid (∀ w', Below w.heap.size w w' → Calls _ _ _ _ _) := fun w' hb => calive_any w' (hV.below hb)
  have HG : Hid (∀ w', Below w.heap.size w w' → Calls _ _ _ _ _) := hg
  clear h hV hg
  go_enter Tryd.func8, Tryd.ntmps8
  go_wp2_with (first
    | (go_at_call 17; ((with_reducible refine (HL.out _ B1.out).mono ?_); rintro x w2 ⟨rfl, hb⟩; have B2 := Lib.hid (bt B1.out hb); have C2 := Lib.hid (C1.out.below hb); have k0 := C2.out.c0; have k1 := C2.out.c1; clear hb))
    | (go_at_call 19; ((with_reducible refine (HG.out _ B2.out).mono ?_); rintro x w3 ⟨rfl, hb⟩; have B3 := Lib.hid (bt B2.out hb); clear hb)))
  go_ret
  exact ⟨rfl, B3.out⟩

set_option maxRecDepth 100000 in
set_option maxHeartbeats 1600000 in
theorem sums_walk (we : Int) (A : Option Addr) (c : Nat) (hs : List Int) (a b d x y z u e f g k : Int) (w : World) (h : CalIn w we A c hs) (hV : VarS w) (hg : ∀ w', Below w.heap.size w w' → GrtS we A c hs false w')
    (h1 : ∀ w', Below w.heap.size w w' → CntS we A c hs a b x e w') (h2 : ∀ w', Below w.heap.size w w' → CntS we A c hs b d y f w') (h3 : ∀ w', Below w.heap.size w w' → CntS we A c hs a d z g w') (h4 : ∀ w', Below w.heap.size w w' → CntS we A c hs b a u k w')
    (hc : (e ≠ 0 ∧ x = 0 ∧ f = 0) ∨ (e ≠ 0 ∧ x = 0 ∧ f ≠ 0 ∧ y = 0) ∨ (e = 0 ∧ f ≠ 0 ∧ y = 0) ∨ (e = 0 ∧ f = 0 ∧ g = 0 ∧ k = 0 ∧ z = x + y ∧ u = -x ∧ (-100000 ≤ x ∧ x ≤ 100000) ∧ (-100000 ≤ y ∧ y ≤ 100000))) :
    Calls Tryd.prog 8 #[.agg #[.int .u8 we, .slice A hs.length c], .int .i64 a, .int .i64 b, .int .i64 d] w fun e w' => e = .returned (.bool true) ∧ Below w.heap.size w w' := by
  have C1 := Lib.hid (CalAt.new (we := we) (c := c) h.rd)
  have B1 := Lib.hid (bel1 w (.cells #[.int .u8 we, .slice A hs.length c] 24))
  have c0 := C1.out.c0
  have c1 := C1.out.c1
  have HL : Hid (∀ w', Below w.heap.size w w' → Calls _ _ _ _ _) := fun w' hb => calive_any w' (hV.below hb)
  have HG : Hid (∀ w', Below w.heap.size w w' → Calls _ _ _ _ _) := hg
  have H1 : Hid (∀ w', Below w.heap.size w w' → Calls _ _ _ _ _) := h1
  have H2 : Hid (∀ w', Below w.heap.size w w' → Calls _ _ _ _ _) := h2
  have H3 : Hid (∀ w', Below w.heap.size w w' → Calls _ _ _ _ _) := h3
  have H4 : Hid (∀ w', Below w.heap.size w w' → Calls _ _ _ _ _) := h4
  clear h hV hg h1 h2 h3 h4
  rcases hc with ⟨he, rfl, rfl⟩ | ⟨he, rfl, hf, rfl⟩ | ⟨rfl, hf, rfl⟩ | ⟨rfl, rfl, rfl, rfl, rfl, rfl, ⟨x0, x1⟩, y0, y1⟩

  · have he1 : (e == 0) = false := by rw [beq_eq_false_iff_ne]; exact he
    have he2 : (e != 0) = true := by rw [bne_iff_ne]; exact he
    clear he
    go_enter Tryd.func8, Tryd.ntmps8
    go_wp2_with (first
      | (go_at_call 17; ((with_reducible refine (HL.out _ B1.out).mono ?_); rintro x w2 ⟨rfl, hb⟩; have B2 := Lib.hid (bt B1.out hb); have C2 := Lib.hid (C1.out.below hb); have k0 := C2.out.c0; have k1 := C2.out.c1; clear hb))
      | (go_at_call 19; ((with_reducible refine (HG.out _ B2.out).mono ?_); rintro x w3 ⟨rfl, hb⟩; have B3 := Lib.hid (bt B2.out hb); have C3 := Lib.hid (C2.out.below hb); have k0 := C3.out.c0; have k1 := C3.out.c1; clear hb))
      | (go_at_call 14; ((with_reducible refine (H1.out _ B3.out).mono ?_); rintro x w4 ⟨rfl, hb⟩; have B4 := Lib.hid (bt B3.out hb); have C4 := Lib.hid (C3.out.below hb); have k0 := C4.out.c0; have k1 := C4.out.c1; clear hb))
      | (go_at_call 14; ((with_reducible refine (H2.out _ B4.out).mono ?_); rintro x w5 ⟨rfl, hb⟩; have B5 := Lib.hid (bt B4.out hb); have C5 := Lib.hid (C4.out.below hb); have k0 := C5.out.c0; have k1 := C5.out.c1; clear hb))
      | (go_at_call 14; ((with_reducible refine (H3.out _ B5.out).mono ?_); rintro x w6 ⟨rfl, hb⟩; have B6 := Lib.hid (bt B5.out hb); have C6 := Lib.hid (C5.out.below hb); have k0 := C6.out.c0; have k1 := C6.out.c1; clear hb))
      | (go_at_call 14; ((with_reducible refine (H4.out _ B6.out).mono ?_); rintro x w7 ⟨rfl, hb⟩; have B7 := Lib.hid (bt B6.out hb); clear hb)))
    go_ret
    exact ⟨rfl, B7.out⟩

  · have he1 : (e == 0) = false := by rw [beq_eq_false_iff_ne]; exact he
    have he2 : (e != 0) = true := by rw [bne_iff_ne]; exact he
    clear he
    have hf1 : (f == 0) = false := by rw [beq_eq_false_iff_ne]; exact hf
    have hf2 : (f != 0) = true := by rw [bne_iff_ne]; exact hf
    clear hf
    go_enter Tryd.func8, Tryd.ntmps8
    go_wp2_with (first
      | (go_at_call 17; ((with_reducible refine (HL.out _ B1.out).mono ?_); rintro x w2 ⟨rfl, hb⟩; have B2 := Lib.hid (bt B1.out hb); have C2 := Lib.hid (C1.out.below hb); have k0 := C2.out.c0; have k1 := C2.out.c1; clear hb))
      | (go_at_call 19; ((with_reducible refine (HG.out _ B2.out).mono ?_); rintro x w3 ⟨rfl, hb⟩; have B3 := Lib.hid (bt B2.out hb); have C3 := Lib.hid (C2.out.below hb); have k0 := C3.out.c0; have k1 := C3.out.c1; clear hb))
      | (go_at_call 14; ((with_reducible refine (H1.out _ B3.out).mono ?_); rintro x w4 ⟨rfl, hb⟩; have B4 := Lib.hid (bt B3.out hb); have C4 := Lib.hid (C3.out.below hb); have k0 := C4.out.c0; have k1 := C4.out.c1; clear hb))
      | (go_at_call 14; ((with_reducible refine (H2.out _ B4.out).mono ?_); rintro x w5 ⟨rfl, hb⟩; have B5 := Lib.hid (bt B4.out hb); have C5 := Lib.hid (C4.out.below hb); have k0 := C5.out.c0; have k1 := C5.out.c1; clear hb))
      | (go_at_call 14; ((with_reducible refine (H3.out _ B5.out).mono ?_); rintro x w6 ⟨rfl, hb⟩; have B6 := Lib.hid (bt B5.out hb); have C6 := Lib.hid (C5.out.below hb); have k0 := C6.out.c0; have k1 := C6.out.c1; clear hb))
      | (go_at_call 14; ((with_reducible refine (H4.out _ B6.out).mono ?_); rintro x w7 ⟨rfl, hb⟩; have B7 := Lib.hid (bt B6.out hb); clear hb)))
    go_ret
    exact ⟨rfl, B7.out⟩

  · have hf1 : (f == 0) = false := by rw [beq_eq_false_iff_ne]; exact hf
    have hf2 : (f != 0) = true := by rw [bne_iff_ne]; exact hf
    clear hf
    go_enter Tryd.func8, Tryd.ntmps8
    go_wp2_with (first
      | (go_at_call 17; ((with_reducible refine (HL.out _ B1.out).mono ?_); rintro x w2 ⟨rfl, hb⟩; have B2 := Lib.hid (bt B1.out hb); have C2 := Lib.hid (C1.out.below hb); have k0 := C2.out.c0; have k1 := C2.out.c1; clear hb))
      | (go_at_call 19; ((with_reducible refine (HG.out _ B2.out).mono ?_); rintro x w3 ⟨rfl, hb⟩; have B3 := Lib.hid (bt B2.out hb); have C3 := Lib.hid (C2.out.below hb); have k0 := C3.out.c0; have k1 := C3.out.c1; clear hb))
      | (go_at_call 14; ((with_reducible refine (H1.out _ B3.out).mono ?_); rintro x w4 ⟨rfl, hb⟩; have B4 := Lib.hid (bt B3.out hb); have C4 := Lib.hid (C3.out.below hb); have k0 := C4.out.c0; have k1 := C4.out.c1; clear hb))
      | (go_at_call 14; ((with_reducible refine (H2.out _ B4.out).mono ?_); rintro x w5 ⟨rfl, hb⟩; have B5 := Lib.hid (bt B4.out hb); have C5 := Lib.hid (C4.out.below hb); have k0 := C5.out.c0; have k1 := C5.out.c1; clear hb))
      | (go_at_call 14; ((with_reducible refine (H3.out _ B5.out).mono ?_); rintro x w6 ⟨rfl, hb⟩; have B6 := Lib.hid (bt B5.out hb); have C6 := Lib.hid (C5.out.below hb); have k0 := C6.out.c0; have k1 := C6.out.c1; clear hb))
      | (go_at_call 14; ((with_reducible refine (H4.out _ B6.out).mono ?_); rintro x w7 ⟨rfl, hb⟩; have B7 := Lib.hid (bt B6.out hb); clear hb)))
    go_ret
    exact ⟨rfl, B7.out⟩

  · go_enter Tryd.func8, Tryd.ntmps8
    go_wp2_with (first
      | (go_at_call 17; ((with_reducible refine (HL.out _ B1.out).mono ?_); rintro x w2 ⟨rfl, hb⟩; have B2 := Lib.hid (bt B1.out hb); have C2 := Lib.hid (C1.out.below hb); have k0 := C2.out.c0; have k1 := C2.out.c1; clear hb))
      | (go_at_call 19; ((with_reducible refine (HG.out _ B2.out).mono ?_); rintro x w3 ⟨rfl, hb⟩; have B3 := Lib.hid (bt B2.out hb); have C3 := Lib.hid (C2.out.below hb); have k0 := C3.out.c0; have k1 := C3.out.c1; clear hb))
      | (go_at_call 14; ((with_reducible refine (H1.out _ B3.out).mono ?_); rintro x w4 ⟨rfl, hb⟩; have B4 := Lib.hid (bt B3.out hb); have C4 := Lib.hid (C3.out.below hb); have k0 := C4.out.c0; have k1 := C4.out.c1; clear hb))
      | (go_at_call 14; ((with_reducible refine (H2.out _ B4.out).mono ?_); rintro x w5 ⟨rfl, hb⟩; have B5 := Lib.hid (bt B4.out hb); have C5 := Lib.hid (C4.out.below hb); have k0 := C5.out.c0; have k1 := C5.out.c1; clear hb))
      | (go_at_call 14; ((with_reducible refine (H3.out _ B5.out).mono ?_); rintro x w6 ⟨rfl, hb⟩; have B6 := Lib.hid (bt B5.out hb); have C6 := Lib.hid (C5.out.below hb); have k0 := C6.out.c0; have k1 := C6.out.c1; clear hb))
      | (go_at_call 14; ((with_reducible refine (H4.out _ B6.out).mono ?_); rintro x w7 ⟨rfl, hb⟩; have B7 := Lib.hid (bt B6.out hb); clear hb)))
    go_ret
    exact ⟨rfl, B7.out⟩


theorem coV_zero {we : Int} {hs : List Int} {a b : Int} (h : chkE we hs [a, b] ≠ 0) : coV we hs a b = 0 := by unfold coV; rw [if_neg h]
theorem coV_ok {we : Int} {hs : List Int} {a b : Int} (h : chkE we hs [a, b] = 0) : coV we hs a b = cumI (bizB we hs) b - cumI (bizB we hs) a ∧ (0 ≤ a ∧ a ≤ 99999) ∧ (0 ≤ b ∧ b ≤ 99999) ∧ valB we hs = true := by
  obtain ⟨h1, h2⟩ := chk_val h
  exact ⟨by unfold coV; rw [if_pos h]; rfl, h2 a (by simp), h2 b (by simp), h1⟩
theorem chk_ok {we : Int} {hs : List Int} {a b : Int} (h : valB we hs = true) (ha : 0 ≤ a ∧ a ≤ 99999) (hb : 0 ≤ b ∧ b ≤ 99999) : chkE we hs [a, b] = 0 := by
  unfold chkE; rw [h]; simp [(dayB_iff a).2 ha, (dayB_iff b).2 hb]
theorem sums_law (we : Int) (A : Option Addr) (c : Nat) (hs : List Int) (a b d : Int) (w : World) (h : CalIn w we A c hs) (hV : VarS w) :
    Calls Tryd.prog 8 #[.agg #[.int .u8 we, .slice A hs.length c], .int .i64 a, .int .i64 b, .int .i64 d] w fun e w' => e = .returned (.bool true) ∧ Below w.heap.size w w' := by
  have hg : ∀ b, grtB hs = b → ∀ w', Below w.heap.size w w' → GrtS we A c hs b w' := fun b hb w' hw => great_any we A c hs b w' (h.below hw) hb
  cases hgr : grtB hs with
  | true => exact sums_great we A c hs a b d w h hV (hg true hgr)
  | false =>
    have hc : ∀ a b, ∀ w', Below w.heap.size w w' → CntS we A c hs a b (coV we hs a b) (chkE we hs [a, b]) w' := fun a b w' hw => count_any we A c hs a b _ _ w' (h.below hw) rfl rfl
    refine sums_walk we A c hs a b d _ _ _ _ _ _ _ _ w h hV (hg false hgr) (hc a b) (hc b d) (hc a d) (hc b a) ?_
    by_cases he : chkE we hs [a, b] = 0
    · obtain ⟨e1, ha, hb, hval⟩ := coV_ok he
      by_cases hf : chkE we hs [b, d] = 0
      · obtain ⟨f1, _, hd, _⟩ := coV_ok hf
        have hg0 := chk_ok hval ha hd
        have hk0 := chk_ok hval hb ha
        obtain ⟨g1, _, _, _⟩ := coV_ok hg0
        obtain ⟨k1, _, _, _⟩ := coV_ok hk0
        have bd : ∀ t, 0 ≤ t → t ≤ 99999 → 0 ≤ cumI (bizB we hs) t ∧ cumI (bizB we hs) t ≤ 99999 := fun t t0 t1 => by
          have := cumI_mono (bizB we hs) (a := 0) (b := t) (by omega) t0
          have e0 : cumI (bizB we hs) 0 = 0 := rfl
          omega
        have ba := bd a ha.1 ha.2
        have bb := bd b hb.1 hb.2
        have bdd := bd d hd.1 hd.2
        exact .inr (.inr (.inr ⟨he, hf, hg0, hk0, by omega, by omega, ⟨by omega, by omega⟩, by omega, by omega⟩))
      · exact .inr (.inr (.inl ⟨he, hf, coV_zero hf⟩))
    · by_cases hf : chkE we hs [b, d] = 0
      · exact .inl ⟨he, coV_zero he, hf⟩
      · exact .inr (.inl ⟨he, coV_zero he, hf, coV_zero hf⟩)
end Go.Proofs.YtgnmcjfocnnffaaDoor

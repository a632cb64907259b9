/- The walk of the law CalendarTells. -/
import Derived.Test.YtgnmcjfocnnffaaCalSt
import Derived.Test.YtgnmcjfocnnffaaCalB2
import Derived.Test.YtgnmcjfocnnffaaCalK
import Derived.Test.YtgnmcjfocnnffaaCalZ3
import Derived.BigRegion
import Derived.Deep.RegionHeld3
import Derived.Deep.CutRange
namespace Go.Proofs.Ytgnmcjfocnnffaa
open Go Go.RowKit

def GrtS' (we : Int) (A : Option Addr) (c : Nat) (hs : List Int) (b : Bool) (w : World) : Prop := Calls Try.prog 4 #[.agg #[.int .u8 we, .slice A hs.length c]] w fun x w' => x = .returned (.bool b) ∧ Below w.heap.size w w'
def BusS' (we : Int) (A : Option Addr) (c : Nat) (hs : List Int) (a : Int) (b : Bool) (e : Int) (w : World) : Prop := Calls Try.prog 5 #[.agg #[.int .u8 we, .slice A hs.length c], .int .i64 a] w fun x w' => x = .returned (.tuple #[.bool b, .int .i64 e]) ∧ Below w.heap.size w w'
def SmeS' (we1 : Int) (A1 : Option Addr) (c1 : Nat) (hs1 : List Int) (we2 : Int) (A2 : Option Addr) (c2 : Nat) (hs2 : List Int) (b : Bool) (w : World) : Prop :=
  Calls Try.prog 9 #[.agg #[.int .u8 we1, .slice A1 hs1.length c1], .agg #[.int .u8 we2, .slice A2 hs2.length c2]] w fun x w' => x = .returned (.bool b) ∧ Below w.heap.size w w'
theorem hbx1 (w : World) (o : Obj) (cs : Array Value) : ((w.alloc o).alloc (.cells cs 24)).drew.heap[w.heap.size + 1]? = some (.cells cs 24 (0, 0)) := by
  have := heap_alloc_new (w.alloc o) (.cells cs 24)
  rw [World.size_alloc] at this
  exact this
theorem hbx2 (w : World) (cs : Array Value) (o : Obj) : ((w.alloc (.cells cs 24)).alloc o).drew.heap[w.heap.size]? = some (.cells cs 24 (0, 0)) :=
  (Below.heap_alloc _ _ _ (by simp)).trans (heap_alloc_new w (.cells cs 24))
theorem box0 {w : World} {B : Nat} {x y : Value} {t : TypeId} (h : w.heap[B]? = some (.cells #[x, y] t (0, 0))) : w.cell? ⟨B, 0, none⟩ = some x := by unfold World.cell?; rw [h]; rfl
theorem box1 {w : World} {B : Nat} {x y : Value} {t : TypeId} (h : w.heap[B]? = some (.cells #[x, y] t (0, 0))) : w.cell? ⟨B, 1, none⟩ = some y := by unfold World.cell?; rw [h]; rfl
theorem boxf {w : World} {B : Nat} {xs : Array Value} {t : TypeId} (h : w.heap[B]? = some (.cells xs t (0, 0))) (j : Nat) : w.frozen? ⟨B, j, none⟩ = false := by unfold World.frozen?; rw [h]; simp

theorem was_new {w' : World} {S : Nat} {A : Option Addr} {c : Nat} {we : Int} {hs : List Int} (hown : w'.ownsRow S 3 1 (.slice A hs.length c) hs.length (hs.map encZ)) :
    CalAt (w'.alloc (.cells #[.int .u8 we, .slice A hs.length c] 24)) w'.heap.size we A c hs := by
  obtain ⟨A', c', e, _, hh, _, _, _⟩ := HsA.of_own hown
  obtain ⟨rfl, rfl⟩ : A = A' ∧ c = c' := by injection e with e1 e2 e3; exact ⟨e1, e3⟩
  exact CalAt.new hh
theorem own_bel {w w' : World} {base : Nat} {e : TypeId} {size : Nat} {v : Value} {n : Nat} {xs : List Value} (h : w.ownsRow base e size v n xs) (b : Below w.heap.size w w') : w'.ownsRow base e size v n xs := by
  refine ⟨h.1, ?_⟩
  rcases h.2 with h0 | ⟨g, cap, cur, hv, hg, hh, r⟩
  · exact .inl h0
  · exact .inr ⟨g, cap, cur, hv, hg, (b.block _ (lt_of_block hh)).trans hh, r⟩
/-- A joint calendar in its box, the holidays in a row of the call's own. -/
structure JCal (wJ W : World) (Cb : Nat) (we : Int) (A : Option Addr) (c : Nat) (n : Nat) (xs : List Value) : Prop where
  blk : W.heap[Cb]? = some (.cells #[.int .u8 we, .slice A n c] 24 (0, 0))
  own : W.ownsRow wJ.heap.size 3 1 (.slice A n c) n xs
  bel : Below wJ.heap.size wJ W
  low : wJ.heap.size ≤ Cb
theorem JCal.below {wJ W W' : World} {Cb : Nat} {we : Int} {A : Option Addr} {c n : Nat} {xs : List Value} (h : JCal wJ W Cb we A c n xs) (hb : Below W.heap.size W W') : JCal wJ W' Cb we A c n xs :=
  ⟨(hb.block _ (lt_of_block h.blk)).trans h.blk, own_bel h.own hb, h.bel.trans (hb.mono h.bel.size), h.low⟩
theorem JCal.step {wJ W : World} {Cb : Nat} {we : Int} {g c n : Nat} {xs : List Value} (h : JCal wJ W Cb we (some ⟨g, 0, none⟩) c n xs) (k : Nat) (u : Value) : JCal wJ (W.setCell ⟨g, k, none⟩ u) Cb we (some ⟨g, 0, none⟩) c n (xs.set k u) := by
  rcases h.own.2 with ⟨h0, _⟩ | ⟨g', cap, cur, hv, hg, hh, _⟩
  · cases h0
  · obtain rfl : g = g' := by injection hv with h1; injection h1 with h1; injection h1
    have hne : Cb ≠ g := by
      rintro rfl
      have hb := h.blk
      rw [hh] at hb
      injection hb with hb
      injection hb with _ h2 _
      exact absurd h2 (by decide)
    exact ⟨(Below.heap_setCell W ⟨g, k, none⟩ u Cb hne).trans h.blk, (h.own.stored k u).1, h.bel.setCell (p := ⟨g, k, none⟩) hg u, h.low⟩
theorem JCal.get {wJ W : World} {Cb : Nat} {we : Int} {A : Option Addr} {c n : Nat} {xs : List Value} (h : JCal wJ W Cb we A c n xs) {k : Nat} (hk : k < n) : ∃ g u, A = some ⟨g, 0, none⟩ ∧ W.cell? ⟨g, k, none⟩ = some u ∧ W.frozen? ⟨g, k, none⟩ = false := by
  have hl : xs.length = n := by have := h.own.1; simpa using this
  rcases h.own.2 with ⟨h0, h1⟩ | ⟨g, cap, cur, hv, _⟩
  · omega
  · obtain ⟨rfl, rfl⟩ : A = some ⟨g, 0, none⟩ ∧ c = cap := by injection hv with h1 h2 h3; exact ⟨h1, h3⟩
    exact ⟨g, xs[k]'(by omega), rfl, by rw [h.own.cellAt k (by omega), List.getElem?_eq_getElem], h.own.frozenAt k⟩
theorem JCal.in_ {wJ W : World} {Cb : Nat} {we : Int} {A : Option Addr} {c : Nat} {L : List Int} (h : JCal wJ W Cb we A c L.length (L.map encZ)) (w0 : 0 ≤ we) (w1 : we ≤ 255) (hl : L.length ≤ 9223372036854775807) : CalIn W we A c L := by
  obtain ⟨A', c', e, _, hh, hn, _, _⟩ := HsA.of_own h.own
  obtain ⟨rfl, rfl⟩ : A = A' ∧ c = c' := by injection e with e1 e2 e3; exact ⟨e1, e3⟩
  exact ⟨w0, w1, hh, hl, hn⟩
theorem JCal.k0 {wJ W : World} {Cb : Nat} {we : Int} {A : Option Addr} {c n : Nat} {xs : List Value} (h : JCal wJ W Cb we A c n xs) : W.cell? ⟨Cb, 0, none⟩ = some (.int .u8 we) := box0 h.blk
theorem JCal.k1 {wJ W : World} {Cb : Nat} {we : Int} {A : Option Addr} {c n : Nat} {xs : List Value} (h : JCal wJ W Cb we A c n xs) : W.cell? ⟨Cb, 1, none⟩ = some (.slice A n c) := box1 h.blk
theorem JCal.new {wJ w' : World} {we : Int} {A : Option Addr} {c n : Nat} {xs : List Value} (ho : w'.ownsRow wJ.heap.size 3 1 (.slice A n c) n xs) (hb : Below wJ.heap.size wJ w') : JCal wJ (w'.alloc (.cells #[.int .u8 we, .slice A n c] 24)) w'.heap.size we A c n xs :=
  ⟨heap_alloc_new _ _, ho.alloc _, hb.alloc hb.size _, hb.size⟩

set_option maxRecDepth 100000 in
set_option maxHeartbeats 6400000 in
theorem tells_g1 (we1 : Int) (A1 : Option Addr) (c1 : Nat) (hs1 : List Int) (we2 : Int) (A2 : Option Addr) (c2 : Nat) (hs2 : List Int) (day : Int) (w : World) (h1 : CalIn w we1 A1 c1 hs1) (h2 : CalIn w we2 A2 c2 hs2) (hg1 : ∀ w', Below w.heap.size w w' → GrtS' we1 A1 c1 hs1 true w') :
    Calls Try.prog 3 #[.agg #[.int .u8 we1, .slice A1 hs1.length c1], .agg #[.int .u8 we2, .slice A2 hs2.length c2], .int .i64 day] w fun e w' => e = .returned (.bool true) ∧ Below w.heap.size w w' := by
  obtain ⟨W2, hW2⟩ : ∃ W2, (w.alloc (.cells #[.int .u8 we1, .slice A1 hs1.length c1] 24)).alloc (.cells #[.int .u8 we2, .slice A2 hs2.length c2] 24) = W2 := ⟨_, rfl⟩
  have hb2 : Below w.heap.size w W2 := by rw [← hW2]; exact bel2 _ _ _
  have hC1 : CalAt W2 w.heap.size we1 A1 c1 hs1 := by rw [← hW2]; exact (CalAt.new h1.rd).below (bel1 _ _)
  have hC2 : CalAt W2 (w.heap.size + 1) we2 A2 c2 hs2 := by
    have := CalAt.new (we := we2) (c := c2) (h2.rd.below (bel1 w (.cells #[.int .u8 we1, .slice A1 hs1.length c1] 24)))
    rw [World.size_alloc] at this
    rw [← hW2]; exact this
  have B0 := Lib.hid hb2
  have Ca0 := Lib.hid hC1
  have Cb0 := Lib.hid hC2
  have HG1 : Hid (∀ w', Below w.heap.size w w' → Calls _ _ _ _ _) := hg1
  have ka0 := hC1.c0
  have ka1 := hC1.c1
  have kb0 := hC2.c0
  have kb1 := hC2.c1
  clear h1 h2 hC1 hC2 hb2 hg1
  go_enter Try.func3, Try.ntmps3
  go_wp2_with (first
    | (go_at_call 4; ((with_reducible refine (HG1.out _ B0.out).mono ?_); rintro x u1 ⟨rfl, hb⟩; have B1 := Lib.hid (bt B0.out hb); have Ca1 := Lib.hid (Ca0.out.below hb); have ka0_1 := Ca1.out.c0; have ka1_1 := Ca1.out.c1; clear ka0 ka1; have Cb1 := Lib.hid (Cb0.out.below hb); have kb0_1 := Cb1.out.c0; have kb1_1 := Cb1.out.c1; clear kb0 kb1; clear hb)))
  go_ret
  exact ⟨rfl, B1.out⟩

set_option maxRecDepth 100000 in
set_option maxHeartbeats 6400000 in
theorem tells_g2 (we1 : Int) (A1 : Option Addr) (c1 : Nat) (hs1 : List Int) (we2 : Int) (A2 : Option Addr) (c2 : Nat) (hs2 : List Int) (day : Int) (w : World) (h1 : CalIn w we1 A1 c1 hs1) (h2 : CalIn w we2 A2 c2 hs2) (hg1 : ∀ w', Below w.heap.size w w' → GrtS' we1 A1 c1 hs1 false w') (hg2 : ∀ w', Below w.heap.size w w' → GrtS' we2 A2 c2 hs2 true w') :
    Calls Try.prog 3 #[.agg #[.int .u8 we1, .slice A1 hs1.length c1], .agg #[.int .u8 we2, .slice A2 hs2.length c2], .int .i64 day] w fun e w' => e = .returned (.bool true) ∧ Below w.heap.size w w' := by
  obtain ⟨W2, hW2⟩ : ∃ W2, (w.alloc (.cells #[.int .u8 we1, .slice A1 hs1.length c1] 24)).alloc (.cells #[.int .u8 we2, .slice A2 hs2.length c2] 24) = W2 := ⟨_, rfl⟩
  have hb2 : Below w.heap.size w W2 := by rw [← hW2]; exact bel2 _ _ _
  have hC1 : CalAt W2 w.heap.size we1 A1 c1 hs1 := by rw [← hW2]; exact (CalAt.new h1.rd).below (bel1 _ _)
  have hC2 : CalAt W2 (w.heap.size + 1) we2 A2 c2 hs2 := by
    have := CalAt.new (we := we2) (c := c2) (h2.rd.below (bel1 w (.cells #[.int .u8 we1, .slice A1 hs1.length c1] 24)))
    rw [World.size_alloc] at this
    rw [← hW2]; exact this
  have B0 := Lib.hid hb2
  have Ca0 := Lib.hid hC1
  have Cb0 := Lib.hid hC2
  have HG1 : Hid (∀ w', Below w.heap.size w w' → Calls _ _ _ _ _) := hg1
  have HG2 : Hid (∀ w', Below w.heap.size w w' → Calls _ _ _ _ _) := hg2
  have ka0 := hC1.c0
  have ka1 := hC1.c1
  have kb0 := hC2.c0
  have kb1 := hC2.c1
  clear h1 h2 hC1 hC2 hb2 hg1 hg2
  go_enter Try.func3, Try.ntmps3
  go_wp2_with (first
    | (go_at_call 4; ((with_reducible refine (HG1.out _ B0.out).mono ?_); rintro x u1 ⟨rfl, hb⟩; have B1 := Lib.hid (bt B0.out hb); have Ca1 := Lib.hid (Ca0.out.below hb); have ka0_1 := Ca1.out.c0; have ka1_1 := Ca1.out.c1; clear ka0 ka1; have Cb1 := Lib.hid (Cb0.out.below hb); have kb0_1 := Cb1.out.c0; have kb1_1 := Cb1.out.c1; clear kb0 kb1; clear hb))
    | (go_at_call 4; ((with_reducible refine (HG2.out _ B1.out).mono ?_); rintro x u2 ⟨rfl, hb⟩; have B2 := Lib.hid (bt B1.out hb); have Ca2 := Lib.hid (Ca1.out.below hb); have ka0_2 := Ca2.out.c0; have ka1_2 := Ca2.out.c1; clear ka0_1 ka1_1; have Cb2 := Lib.hid (Cb1.out.below hb); have kb0_2 := Cb2.out.c0; have kb1_2 := Cb2.out.c1; clear kb0_1 kb1_1; clear hb)))
  go_ret
  exact ⟨rfl, B2.out⟩

set_option maxRecDepth 100000 in
set_option maxHeartbeats 6400000 in
theorem tells_main (we1 : Int) (A1 : Option Addr) (c1 : Nat) (hs1 : List Int) (we2 : Int) (A2 : Option Addr) (c2 : Nat) (hs2 : List Int) (day : Int) (x : Bool) (e W : Int) (L : List Int) (E v : Int) (vb : Bool) (w : World) (h1 : CalIn w we1 A1 c1 hs1) (h2 : CalIn w we2 A2 c2 hs2) (hl : hs1.length ≤ 1100) (hW0 : 0 ≤ W) (hW1 : W ≤ 255) (hL : L.length ≤ 9223372036854775807)
    (hg1 : ∀ w', Below w.heap.size w w' → GrtS' we1 A1 c1 hs1 false w') (hg2 : ∀ w', Below w.heap.size w w' → GrtS' we2 A2 c2 hs2 false w') (hb1 : ∀ w', Below w.heap.size w w' → BusS' we1 A1 c1 hs1 day x e w') (hr1 : ∀ w', Below w.heap.size w w' → RBusS we1 A1 c1 hs1 day x e w')
    (hj : ∀ w', Below w.heap.size w w' → JoinS we1 A1 c1 hs1 we2 A2 c2 hs2 W L E w') (hrj : ∀ w', Below w.heap.size w w' → RJoS we1 A1 c1 hs1 we2 A2 c2 hs2 W L E w') (hck : ∀ w', Below w.heap.size w w' → ChkS we1 A1 c1 hs1 v w') (hvl : ∀ w', Below w.heap.size w w' → ValS we1 A1 c1 hs1 vb w')
    (hs : ∀ w' A c A' c', CalIn w' W A c L → CalIn w' W A' c' L → SmeS' W A c L W A' c' L true w') (hsa : ∀ w' A c A' c', CalIn w' we1 A c hs1 → CalIn w' we1 A' c' hs1 → SmeS' we1 A c hs1 we1 A' c' hs1 true w') (hv : (v == 0) = vb) :
    Calls Try.prog 3 #[.agg #[.int .u8 we1, .slice A1 hs1.length c1], .agg #[.int .u8 we2, .slice A2 hs2.length c2], .int .i64 day] w fun e w' => e = .returned (.bool true) ∧ Below w.heap.size w w' := by
  obtain ⟨W2, hW2⟩ : ∃ W2, (w.alloc (.cells #[.int .u8 we1, .slice A1 hs1.length c1] 24)).alloc (.cells #[.int .u8 we2, .slice A2 hs2.length c2] 24) = W2 := ⟨_, rfl⟩
  have hb2 : Below w.heap.size w W2 := by rw [← hW2]; exact bel2 _ _ _
  have hC1 : CalAt W2 w.heap.size we1 A1 c1 hs1 := by rw [← hW2]; exact (CalAt.new h1.rd).below (bel1 _ _)
  have hC2 : CalAt W2 (w.heap.size + 1) we2 A2 c2 hs2 := by
    have := CalAt.new (we := we2) (c := c2) (h2.rd.below (bel1 w (.cells #[.int .u8 we1, .slice A1 hs1.length c1] 24)))
    rw [World.size_alloc] at this
    rw [← hW2]; exact this
  have B0 := Lib.hid hb2
  have Ca0 := Lib.hid hC1
  have Cb0 := Lib.hid hC2
  have HG1 : Hid (∀ w', Below w.heap.size w w' → Calls _ _ _ _ _) := hg1
  have HG2 : Hid (∀ w', Below w.heap.size w w' → Calls _ _ _ _ _) := hg2
  have HB1 : Hid (∀ w', Below w.heap.size w w' → Calls _ _ _ _ _) := hb1
  have HR1 : Hid (∀ w', Below w.heap.size w w' → Calls _ _ _ _ _) := hr1
  have HJ : Hid (∀ w', Below w.heap.size w w' → Calls _ _ _ _ _) := hj
  have HRJ : Hid (∀ w', Below w.heap.size w w' → Calls _ _ _ _ _) := hrj
  have HCK : Hid (∀ w', Below w.heap.size w w' → Calls _ _ _ _ _) := hck
  have HVL : Hid (∀ w', Below w.heap.size w w' → Calls _ _ _ _ _) := hvl
  have HS : Hid (∀ w' (A : Option Addr) (c : Nat) (A' : Option Addr) (c' : Nat), CalIn w' W A c L → CalIn w' W A' c' L → Calls _ _ _ _ _) := hs
  have HSA : Hid (∀ w' (A : Option Addr) (c : Nat) (A' : Option Addr) (c' : Nat), CalIn w' we1 A c hs1 → CalIn w' we1 A' c' hs1 → Calls _ _ _ _ _) := hsa
  have HLW := Lib.hid (And.intro hW0 (And.intro hW1 hL))
  have he1 : (e == e) = true := by simp
  have he2 : (E == E) = true := by simp
  have he3 : (x == x) = true := by simp
  have he4 : (vb == vb) = true := by simp
  have H1 := Lib.hid h1
  have ka0 := hC1.c0
  have ka1 := hC1.c1
  have kb0 := hC2.c0
  have kb1 := hC2.c1
  have HLL := Lib.hid hl
  obtain ⟨i0, hi0, hz0, hz1, hz2⟩ := info_parts infoZ
  clear h1 h2 hC1 hC2 hb2 hg1 hg2 hl hb1 hr1 hj hrj hck hvl hs hsa hW0 hW1 hL
  go_enter Try.func3, Try.ntmps3
  go_upto_region 3 with (first
    | (go_at_call 4; ((with_reducible refine (HG1.out _ B0.out).mono ?_); rintro x u1 ⟨rfl, hb⟩; have B1 := Lib.hid (bt B0.out hb); have Ca1 := Lib.hid (Ca0.out.below hb); have ka0_1 := Ca1.out.c0; have ka1_1 := Ca1.out.c1; clear ka0 ka1; have Cb1 := Lib.hid (Cb0.out.below hb); have kb0_1 := Cb1.out.c0; have kb1_1 := Cb1.out.c1; clear kb0 kb1; clear hb))
    | (go_at_call 4; ((with_reducible refine (HG2.out _ B1.out).mono ?_); rintro x u2 ⟨rfl, hb⟩; have B2 := Lib.hid (bt B1.out hb); have Ca2 := Lib.hid (Ca1.out.below hb); have ka0_2 := Ca2.out.c0; have ka1_2 := Ca2.out.c1; clear ka0_1 ka1_1; have Cb2 := Lib.hid (Cb1.out.below hb); have kb0_2 := Cb2.out.c0; have kb1_2 := Cb2.out.c1; clear kb0_1 kb1_1; clear hb)))
  have hsz : w.heap.size < u2.heap.size := Ca2.out.lt
  have HRD : Hid (∀ W, Below u2.heap.size u2 W → HsA W A1 hs1) := fun W hb => Ca2.out.hs.below hb
  go_cut [7] from 24 to 30 (fun s7 wc => ∃ (Wb : Nat) (A3 : Option Addr) (c3 : Nat), s7 = .pointer (some ⟨Wb, 0, none⟩) ∧ Hid (CalAt wc Wb we1 A3 c3 hs1 ∧ Below u2.heap.size u2 wc ∧ (A3 = none → c3 = 0)))
  case first =>
    go_region_held3 (fun w' => w'.cell? ⟨w.heap.size, 0, none⟩ = some (.int .u8 we1) ∧ w'.cell? ⟨w.heap.size, 1, none⟩ = some (.slice A1 hs1.length c1))
      (((try go_split_ands); (and_intros) <;> first
        | assumption
        | exact (BB3.out.cell (p := ⟨w.heap.size, 0, none⟩) hsz).trans ka0_2
        | exact (BB3.out.cell (p := ⟨w.heap.size, 1, none⟩) hsz).trans ka1_2
        | with_reducible exact ((bel1 u2 _).drew.cell (p := ⟨w.heap.size, 0, none⟩) hsz).trans ka0_2
        | with_reducible exact ((bel2 u2 _ _).drew.cell (p := ⟨w.heap.size, 0, none⟩) hsz).trans ka0_2
        | with_reducible exact ((BB3.out.alloc z3 _).cell (p := ⟨w.heap.size, 0, none⟩) hsz).trans ka0_2
        | with_reducible exact (((BB3.out.setCell (p := ⟨u2.heap.size + 1, 0, none⟩) (Nat.le_add_right _ 1) _).setCell (p := ⟨u2.heap.size + 1, 1, none⟩) (Nat.le_add_right _ 1) _).cell (p := ⟨w.heap.size, 0, none⟩) hsz).trans ka0_2
        | with_reducible exact (((BB3.out.setCell (p := ⟨u2.heap.size, 0, none⟩) (Nat.le_refl _) _).setCell (p := ⟨u2.heap.size, 1, none⟩) (Nat.le_refl _) _).cell (p := ⟨w.heap.size, 0, none⟩) hsz).trans ka0_2
        | with_reducible exact ((bel1 u2 _).drew.cell (p := ⟨w.heap.size, 1, none⟩) hsz).trans ka1_2
        | with_reducible exact ((bel2 u2 _ _).drew.cell (p := ⟨w.heap.size, 1, none⟩) hsz).trans ka1_2
        | with_reducible exact ((BB3.out.alloc z3 _).cell (p := ⟨w.heap.size, 1, none⟩) hsz).trans ka1_2
        | with_reducible exact (((BB3.out.setCell (p := ⟨u2.heap.size + 1, 0, none⟩) (Nat.le_add_right _ 1) _).setCell (p := ⟨u2.heap.size + 1, 1, none⟩) (Nat.le_add_right _ 1) _).cell (p := ⟨w.heap.size, 1, none⟩) hsz).trans ka1_2
        | with_reducible exact (((BB3.out.setCell (p := ⟨u2.heap.size, 0, none⟩) (Nat.le_refl _) _).setCell (p := ⟨u2.heap.size, 1, none⟩) (Nat.le_refl _) _).cell (p := ⟨w.heap.size, 1, none⟩) hsz).trans ka1_2
        | (go_keep; done)))
      ((go_split_ands; refine step_appZ rfl _ _ 22 rfl 3 i0 (.int .i64 0) 8 Try.underlying22 hi0 hz0 hz1 hz2 rfl u2.heap.size _ 0 [] (by first | exact World.ownsRow_lit _ #[] 0 (Nat.le_refl _) (by decide) rfl | exact (World.ownsRow_lit _ #[] 0 (Nat.le_refl _) (by decide) rfl).alloc _ | exact World.ownsRow_lit _ #[] 0 (by simp) (by decide) rfl) (by simp [Act.eval]) A1 hs1 hs1.length c1 rfl (HRD.out _ (by first | exact (bel1 u2 _).drew | exact (bel2 u2 _ _).drew)) H1.out.nn (by simp [Act.eval]) (by have := HLL.out; unfold maxLen; omega) (by have := HLL.out; omega) (by simp <;> omega) ?_; intro v' w' hown hbel hblk; rw [Nat.zero_add, List.nil_append] at hown; obtain ⟨A3, c3, rfl, -, -, hnn, -, -⟩ := HsA.of_own hown; have N3 := Lib.hid hnn; clear hnn; have O3 := Lib.hid hown; have B3 := Lib.hid hbel; have BB3 := Lib.hid (Below.trans (by first | exact (bel1 u2 _).drew | exact (bel2 u2 _ _).drew) hbel); have z3 := BB3.out.size; have K3 := Lib.hid hblk; clear hown hbel hblk; first | (have hx := (K3.out (u2.heap.size + 1) (by simp) (by simp [Value.ownBlock])).trans (hbx1 _ _ _); have q0 := box0 hx; have q1 := box1 hx; have q2 := boxf hx 0; have q3 := boxf hx 1; have HX := Lib.hid hx; clear hx) | (have hx := (K3.out u2.heap.size (by simp <;> omega) (by simp [Value.ownBlock])).trans (hbx2 _ _ _); have q0 := box0 hx; have q1 := box1 hx; have q2 := boxf hx 0; have q3 := boxf hx 1; have HX := Lib.hid hx; clear hx) | skip))
    all_goals (go_wp2_with fail)
    all_goals go_meet
    all_goals (case rel => first
      | exact ⟨_, A3, c3, rfl, was_new O3.out, BB3.out.alloc z3 _, N3.out⟩
      | exact ⟨_, A3, c3, rfl, was_set O3.out HX.out BB3.out (Nat.le_add_right _ 1) |>.1, (was_set O3.out HX.out BB3.out (Nat.le_add_right _ 1)).2, N3.out⟩
      | exact ⟨_, A3, c3, rfl, was_set O3.out HX.out BB3.out (Nat.le_refl _) |>.1, (was_set O3.out HX.out BB3.out (Nat.le_refl _)).2, N3.out⟩)
  case rest =>
    clear HRD ka0_2 ka1_2 kb0_2 kb1_2 hsz HG1 HG2 HLL hi0 hz0 hz1 hz2
    obtain ⟨Wb, A3, c3, rfl, hcc⟩ := hcut
    have B3 := Lib.hid (bt B2.out hcc.out.2.1)
    have Ca3 := Lib.hid (Ca2.out.below hcc.out.2.1)
    have Cb3 := Lib.hid (Cb2.out.below hcc.out.2.1)
    have Cw3 := Lib.hid hcc.out.1
    have N3 := Lib.hid hcc.out.2.2
    clear hcc
    have ka0 := Ca3.out.c0
    have ka1 := Ca3.out.c1
    have kb0 := Cb3.out.c0
    have kb1 := Cb3.out.c1
    go_upto_region 8 with (first
      | (go_at_call 5; ((with_reducible refine (HB1.out _ B3.out).mono ?_); rintro x u4 ⟨rfl, hb⟩; have B4 := Lib.hid (bt B3.out hb); have Ca4 := Lib.hid (Ca3.out.below hb); have ka0_4 := Ca4.out.c0; have ka1_4 := Ca4.out.c1; clear ka0 ka1; have Cb4 := Lib.hid (Cb3.out.below hb); have kb0_4 := Cb4.out.c0; have kb1_4 := Cb4.out.c1; clear kb0 kb1; have Cw4 := Lib.hid (Cw3.out.below hb); have kw0_4 := Cw4.out.c0; have kw1_4 := Cw4.out.c1; clear hb))
      | (go_at_call 6; ((with_reducible refine (HR1.out _ B4.out).mono ?_); rintro x u5 ⟨rfl, hb⟩; have B5 := Lib.hid (bt B4.out hb); have Ca5 := Lib.hid (Ca4.out.below hb); have ka0_5 := Ca5.out.c0; have ka1_5 := Ca5.out.c1; clear ka0_4 ka1_4; have Cb5 := Lib.hid (Cb4.out.below hb); have kb0_5 := Cb5.out.c0; have kb1_5 := Cb5.out.c1; clear kb0_4 kb1_4; have Cw5 := Lib.hid (Cw4.out.below hb); have kw0_5 := Cw5.out.c0; have kw1_5 := Cw5.out.c1; clear kw0_4 kw1_4; clear hb))
      | (go_at_call 7; ((with_reducible refine (HJ.out _ B5.out).mono ?_); rintro x6 u6 ⟨v6, rfl, ho, hb⟩; obtain ⟨Aj, cj, rfl, -, -, -, -, -⟩ := HsA.of_own ho; have J6 := Lib.hid (JCal.new (we := W) ho hb); have ha := bel1 u6 (.cells #[.int .u8 W, .slice Aj L.length cj] 24); have B6 := Lib.hid (bt (bt B5.out hb) ha); have Ca6 := Lib.hid ((Ca5.out.below hb).below ha); have ka0_6 := Ca6.out.c0; have ka1_6 := Ca6.out.c1; have Cb6 := Lib.hid ((Cb5.out.below hb).below ha); have kb0_6 := Cb6.out.c0; have kb1_6 := Cb6.out.c1; clear ka0_5 ka1_5 kb0_5 kb1_5; clear hb ha ho))
      | (go_at_call 8; ((with_reducible refine (HRJ.out _ B6.out).mono ?_); rintro x7 u7 ⟨v7, rfl, ho, hb⟩; obtain ⟨Ad, cd, rfl, -, hh, hn, -, -⟩ := HsA.of_own ho; have ha := bel1 u7 (.cells #[.int .u8 W, .slice Ad L.length cd] 24); have B7 := Lib.hid (bt (bt B6.out hb) ha); have J7 := Lib.hid ((J6.out.below hb).below ha); have Cd7 := Lib.hid (CalAt.new (we := W) (c := cd) hh); have kd0_7 := Cd7.out.c0; have kd1_7 := Cd7.out.c1; have kc0_7 := J7.out.k0; have kc1_7 := J7.out.k1; have Id7 := Lib.hid (CalIn.mk HLW.out.1 HLW.out.2.1 (hh.below ha) HLW.out.2.2 hn); have Ca7 := Lib.hid ((Ca6.out.below hb).below ha); have ka0_7 := Ca7.out.c0; have ka1_7 := Ca7.out.c1; have Cb7 := Lib.hid ((Cb6.out.below hb).below ha); have kb0_7 := Cb7.out.c0; have kb1_7 := Cb7.out.c1; clear ka0_6 ka1_6 kb0_6 kb1_6; clear hb ha ho hh hn)))
    generalize hw8 : u7.alloc (.cells #[.int .u8 W, .slice Ad L.length cd] 24) = w8 at *
    clear hw8
    have HS8 : Hid (∀ W', Below w8.heap.size w8 W' → Calls _ _ _ _ _) := fun W' hb => HS.out _ _ _ _ _ ((J7.out.below hb).in_ HLW.out.1 HLW.out.2.1 HLW.out.2.2) (Id7.out.below hb)
    have HC8 : Hid (∀ W', Below w8.heap.size w8 W' → Calls _ _ _ _ _) := fun W' hb => HCK.out _ (bt B7.out hb)
    have HV8 : Hid (∀ W', Below w8.heap.size w8 W' → Calls _ _ _ _ _) := fun W' hb => HVL.out _ (bt B7.out hb)
    have la := Ca7.out.lt
    have lc := lt_of_block J7.out.blk
    have ld := Cd7.out.lt
    go_region_held3 (fun w' => w'.cell? ⟨w.heap.size, 0, none⟩ = some (.int .u8 we1) ∧ w'.cell? ⟨w.heap.size, 1, none⟩ = some (.slice A1 hs1.length c1) ∧ w'.cell? ⟨u6.heap.size, 0, none⟩ = some (.int .u8 W) ∧ w'.cell? ⟨u6.heap.size, 1, none⟩ = some (.slice Aj L.length cj) ∧ w'.cell? ⟨u7.heap.size, 0, none⟩ = some (.int .u8 W) ∧ w'.cell? ⟨u7.heap.size, 1, none⟩ = some (.slice Ad L.length cd) ∧ Below w8.heap.size w8 w')
      (((try go_split_ands); (and_intros) <;> first
        | assumption
        | exact (Below.refl _ _).drew
        | exact NB.out
        | with_reducible exact (NB.out.cell (p := ⟨w.heap.size, 0, none⟩) la).trans ka0_7
        | with_reducible exact (NB.out.cell (p := ⟨w.heap.size, 1, none⟩) la).trans ka1_7
        | with_reducible exact (NB.out.cell (p := ⟨u6.heap.size, 0, none⟩) lc).trans kc0_7
        | with_reducible exact (NB.out.cell (p := ⟨u6.heap.size, 1, none⟩) lc).trans kc1_7
        | with_reducible exact (NB.out.cell (p := ⟨u7.heap.size, 0, none⟩) ld).trans kd0_7
        | with_reducible exact (NB.out.cell (p := ⟨u7.heap.size, 1, none⟩) ld).trans kd1_7
        | (go_keep; done)))
      (first
        | (go_split_ands; go_at_call 9; refine (HS8.out _ (by assumption)).mono ?_; rintro x8 u8 ⟨rfl, hb⟩; have NB := Lib.hid (Below.trans (by assumption) (hb.mono (Below.size (by assumption)))); clear hb)
        | (go_split_ands; go_at_call 10; refine (HC8.out _ (by assumption)).mono ?_; rintro x9 u9 ⟨rfl, hb⟩; have NB := Lib.hid (Below.trans (by assumption) (hb.mono (Below.size (by assumption)))); clear hb)
        | (go_split_ands; go_at_call 11; refine (HV8.out _ (by assumption)).mono ?_; rintro x10 u10 ⟨rfl, hb⟩; have NB := Lib.hid (Below.trans (by assumption) (hb.mono (Below.size (by assumption)))); clear hb))
    have J10 := Lib.hid (J7.out.below NB.out)
    clear HS8 HC8 HV8 la lc ld NB HS HCK HVL HJ HRJ HB1 HR1 Id7 J7 Cd7 Ca7 Cb7 B7 ka0_7 ka1_7 kb0_7 kb1_7 kc0_7 kc1_7 kd0_7 kd1_7
    have kc1 := J10.out.k1
    go_wp2
    clear kc1
    go_loopw [17] (fun i wr => ∃ (k : Nat) (xs : List Value), k ≤ L.length ∧ i = .int .i64 k ∧ Hid (JCal u5 wr u6.heap.size W Aj cj L.length xs)) (fun i _ => L.length - (intOf i).toNat)
    case atStart => exact ⟨0, _, by omega, rfl, J10⟩
    case round =>
      clear J10
      obtain ⟨k, xs, hk, rfl, HJc⟩ := hrel
      have kc1 := HJc.out.k1
      have hL := HLW.out.2.2
      by_cases hlt : k < L.length
      · obtain ⟨g, u, rfl, q, qf⟩ := HJc.out.get hlt
        have HJn := Lib.hid (HJc.out.step k (.int .i64 (-1)))
        have i1 : (k : Int) < (L.length : Int) := by omega
        go_wp2
        go_roundw
        case rel => exact ⟨k + 1, _, by omega, by go_num, HJn⟩
        case measure => simp [intOf]; omega
      · obtain rfl : k = L.length := by omega
        have hbj := HJc.out.bel
        have Ca := Lib.hid (Ca5.out.below hbj)
        have Cw := Lib.hid (Cw5.out.below hbj)
        have BJ := Lib.hid (bt B5.out hbj)
        have xa0 := Ca.out.c0
        have xa1 := Ca.out.c1
        have xw0 := Cw.out.c0
        have xw1 := Cw.out.c1
        have HF := Lib.hid (HSA.out wr A1 c1 A3 c3 (H1.out.below BJ.out) (CalIn.mk H1.out.w0 H1.out.w1 Cw.out.hs H1.out.len N3.out))
        clear hbj
        go_wp2_with (go_at_call 9; ((with_reducible refine HF.out.mono ?_); rintro x11 u11 ⟨rfl, hb⟩; have B11 := Lib.hid (bt BJ.out hb); clear hb))
        go_ret
        exact ⟨rfl, B11.out⟩
end Go.Proofs.Ytgnmcjfocnnffaa

/- Layer 4: the program's walks: joint calendars. -/
import Derived.Test.YtgnmcjfocnnffaaCalS
import Derived.Test.YtgnmcjfocnnffaaCalK
import Derived.Test.YtgnmcjfocnnffaaCalX
import Derived.Laws.BitsAllLaws
namespace Go.Proofs.Ytgnmcjfocnnffaa
open Go Go.RowKit

theorem orW_bits (a b : Int) (a0 : 0 ≤ a) (a1 : a ≤ 255) (b0 : 0 ≤ b) (b1 : b ≤ 255) : bits BinOp.or IntKind.u8 a b = orW a b := u8_or a b a0 (by omega) b0 (by omega)
/-- Two results, the first one a struct in memory. -/
theorem results_row_tmp {P : Program} {fn : Func} {p q : Tmp} {ty : TypeId} (h : fn.results = #[.cell p ty, .tmp q]) (tmps : Array Value) (w : World) (g : Nat) (t : TypeId) (cs : Array Value) (fr : Nat × Nat) (d : TypeDesc) (u : Value) (hq : tmps.getD q undef = u)
    (hp : tmps.getD p undef = .pointer (some ⟨g, 0, none⟩)) (hg : w.heap[g]? = some (.cells cs t fr))
    (hu : P.underlying ty = some d) (hd : (match d with | .struct _ | .array _ _ => true | _ => false) = true) (hi : (P.info? ty).map (·.size) = some cs.size) :
    (results fn tmps).run P w = .ok (.tuple #[.agg cs, u]) w := by
  subst hq
  have hp' : tmps[p]?.getD undef = .pointer (some ⟨g, 0, none⟩) := by simpa using hp
  simp [results, h, hp', asAddr, run_loadVar_row w g t ty cs fr d hg hu hd hi]

/-- A struct of two cells, written. -/
theorem heap_set2 {w : World} {b : Nat} {x y : Value} {t : TypeId} (h : w.heap[b]? = some (.cells #[x, y] t (0, 0))) (u v : Value) :
    ((w.setCell ⟨b, 0, none⟩ u).setCell ⟨b, 1, none⟩ v).heap[b]? = some (.cells #[u, v] t (0, 0)) := by
  have h1 := heap_setCell_same w b 0 _ _ u h
  exact heap_setCell_same _ b 1 _ _ v h1

theorem own_set {w : World} {base : Nat} {e : TypeId} {size : Nat} {v : Value} {n : Nat} {xs : List Value} (h : w.ownsRow base e size v n xs) {p : Addr} (hp : p.block < base) (u : Value) : (w.setCell p u).ownsRow base e size v n xs := by
  refine ⟨h.1, ?_⟩
  rcases h.2 with h0 | ⟨g, cap, cur, hv, hg, hh, r⟩
  · exact .inl h0
  · exact .inr ⟨g, cap, cur, hv, hg, (Below.heap_setCell w p u g (by omega)).trans hh, r⟩
theorem own_base {w : World} {base base' : Nat} {e : TypeId} {size : Nat} {v : Value} {n : Nat} {xs : List Value} (h : w.ownsRow base e size v n xs) (hb : base' ≤ base) : w.ownsRow base' e size v n xs := by
  refine ⟨h.1, ?_⟩
  rcases h.2 with h0 | ⟨g, cap, cur, hv, hg, r⟩
  · exact .inl h0
  · exact .inr ⟨g, cap, cur, hv, Nat.le_trans hb hg, r⟩
theorem bel_set2 {w W : World} (h : Below w.heap.size w W) (b : Nat) (hb : w.heap.size ≤ b) (u v : Value) : Below w.heap.size w ((W.setCell ⟨b, 0, none⟩ u).setCell ⟨b, 1, none⟩ v) :=
  (h.setCell (p := ⟨b, 0, none⟩) hb u).setCell (p := ⟨b, 1, none⟩) hb v

/-- What Join answers: holidays in a row of the call's own. -/
def JoinR (W : Int) (L : List Int) (E : Int) (w : World) (e : Ending) (w' : World) : Prop :=
  ∃ v, e = .returned (.tuple #[.agg #[.int .u8 W, v], .int .i64 E]) ∧ w'.ownsRow w.heap.size 3 1 v L.length (L.map encZ) ∧ Below w.heap.size w w'
section
variable (we1 : Int) (A1 : Option Addr) (c1 : Nat) (hs1 : List Int) (we2 : Int) (A2 : Option Addr) (c2 : Nat) (hs2 : List Int)
def JoinS (W : Int) (L : List Int) (E : Int) (w : World) : Prop :=
  Calls Try.prog 7 #[.agg #[.int .u8 we1, .slice A1 hs1.length c1], .agg #[.int .u8 we2, .slice A2 hs2.length c2]] w (JoinR W L E w)
def ChkS (we : Int) (A : Option Addr) (c : Nat) (hs : List Int) (v : Int) (w : World) : Prop :=
  Calls Try.prog 10 #[.agg #[.int .u8 we, .slice A hs.length c]] w fun e w' => e = .returned (.int .i64 v) ∧ Below w.heap.size w w'
def UniS (U : List Int) (w : World) : Prop :=
  Calls Try.prog 16 #[.slice A1 hs1.length c1, .slice A2 hs2.length c2] w fun e w' => ∃ v, e = .returned v ∧ w'.ownsRow w.heap.size 3 1 v U.length (U.map encZ) ∧ Below w.heap.size w w'

/-- The world when Join has made its boxes. -/
structure JoB (w W3 : World) : Prop where
  C1 : CalAt W3 w.heap.size we1 A1 c1 hs1
  C2 : CalAt W3 (w.heap.size + 1) we2 A2 c2 hs2
  R : W3.heap[w.heap.size + 1 + 1]? = some (.cells #[.int .u8 0, .slice none 0 0] 24 (0, 0))
  B : Below w.heap.size w W3
end
theorem joB_new (we1 : Int) (A1 : Option Addr) (c1 : Nat) (hs1 : List Int) (we2 : Int) (A2 : Option Addr) (c2 : Nat) (hs2 : List Int) (w : World) (h1 : HsA w A1 hs1) (h2 : HsA w A2 hs2) :
    JoB we1 A1 c1 hs1 we2 A2 c2 hs2 w (((w.alloc (.cells #[.int .u8 we1, .slice A1 hs1.length c1] 24)).alloc (.cells #[.int .u8 we2, .slice A2 hs2.length c2] 24)).alloc (.cells #[.int .u8 0, .slice none 0 0] 24)) := by
  have k1 := CalAt.new (we := we1) (c := c1) h1
  have k2 := CalAt.new (we := we2) (c := c2) (h2.below (bel1 w (.cells #[.int .u8 we1, .slice A1 hs1.length c1] 24)))
  rw [World.size_alloc] at k2
  refine ⟨(k1.below (bel1 _ _)).below (bel1 _ _), k2.below (bel1 _ _), ?_, (bel2 w _ _).alloc (by simp; omega) _⟩
  have := heap_alloc_new ((w.alloc (.cells #[.int .u8 we1, .slice A1 hs1.length c1] 24)).alloc (.cells #[.int .u8 we2, .slice A2 hs2.length c2] 24)) (.cells #[.int .u8 0, .slice none 0 0] 24)
  rwa [World.size_alloc, World.size_alloc] at this
theorem JoB.below {we1 : Int} {A1 : Option Addr} {c1 : Nat} {hs1 : List Int} {we2 : Int} {A2 : Option Addr} {c2 : Nat} {hs2 : List Int} {w W W' : World} (h : JoB we1 A1 c1 hs1 we2 A2 c2 hs2 w W) (hb : Below W.heap.size W W') : JoB we1 A1 c1 hs1 we2 A2 c2 hs2 w W' :=
  ⟨h.C1.below hb, h.C2.below hb, (hb.block _ (lt_of_block h.R)).trans h.R, h.B.trans (hb.mono h.B.size)⟩

theorem JoB.q0 {we1 : Int} {A1 : Option Addr} {c1 : Nat} {hs1 : List Int} {we2 : Int} {A2 : Option Addr} {c2 : Nat} {hs2 : List Int} {w W : World} (h : JoB we1 A1 c1 hs1 we2 A2 c2 hs2 w W) : W.cell? ⟨w.heap.size + 1 + 1, 0, none⟩ = some (.int .u8 0) := by unfold World.cell?; rw [h.R]; rfl
theorem JoB.q1 {we1 : Int} {A1 : Option Addr} {c1 : Nat} {hs1 : List Int} {we2 : Int} {A2 : Option Addr} {c2 : Nat} {hs2 : List Int} {w W : World} (h : JoB we1 A1 c1 hs1 we2 A2 c2 hs2 w W) : W.cell? ⟨w.heap.size + 1 + 1, 1, none⟩ = some (.slice none 0 0) := by unfold World.cell?; rw [h.R]; rfl
theorem JoB.q2 {we1 : Int} {A1 : Option Addr} {c1 : Nat} {hs1 : List Int} {we2 : Int} {A2 : Option Addr} {c2 : Nat} {hs2 : List Int} {w W : World} (h : JoB we1 A1 c1 hs1 we2 A2 c2 hs2 w W) : W.frozen? ⟨w.heap.size + 1 + 1, 0, none⟩ = false := by unfold World.frozen?; rw [h.R]; rfl
theorem JoB.q3 {we1 : Int} {A1 : Option Addr} {c1 : Nat} {hs1 : List Int} {we2 : Int} {A2 : Option Addr} {c2 : Nat} {hs2 : List Int} {w W : World} (h : JoB we1 A1 c1 hs1 we2 A2 c2 hs2 w W) : W.frozen? ⟨w.heap.size + 1 + 1, 1, none⟩ = false := by unfold World.frozen?; rw [h.R]; rfl

set_option maxRecDepth 100000 in
set_option maxHeartbeats 1600000 in
theorem join_bad1 (we1 : Int) (A1 : Option Addr) (c1 : Nat) (hs1 : List Int) (we2 : Int) (A2 : Option Addr) (c2 : Nat) (hs2 : List Int) (w : World) (h1 : CalIn w we1 A1 c1 hs1) (h2 : CalIn w we2 A2 c2 hs2) (hc1 : ∀ w', Below w.heap.size w w' → ChkS we1 A1 c1 hs1 8 w') : JoinS we1 A1 c1 hs1 we2 A2 c2 hs2 0 [] 8 w := by
  have hJ := joB_new we1 A1 c1 hs1 we2 A2 c2 hs2 w h1.rd h2.rd
  obtain ⟨W3, hW3⟩ : ∃ W3, ((w.alloc (.cells #[.int .u8 we1, .slice A1 hs1.length c1] 24)).alloc (.cells #[.int .u8 we2, .slice A2 hs2.length c2] 24)).alloc (.cells #[.int .u8 0, .slice none 0 0] 24) = W3 := ⟨_, rfl⟩
  rw [hW3] at hJ
  have J3 := Lib.hid hJ
  have HC1 : Hid (∀ w', Below w.heap.size w w' → Calls _ _ _ _ _) := hc1
  have a0 := hJ.C1.c0
  have a1 := hJ.C1.c1
  have b0 := hJ.C2.c0
  have b1 := hJ.C2.c1
  have q0 := hJ.q0
  have q1 := hJ.q1
  have q2 := hJ.q2
  have q3 := hJ.q3
  clear hJ h1 h2 hc1
  show Calls _ _ _ _ _
  go_enter Try.func7, Try.ntmps7
  go_wp2_with (first
    | (go_at_call 10; ((with_reducible refine (HC1.out _ J3.out.B).mono ?_); rintro x w4 ⟨rfl, hb⟩; have J4 := Lib.hid (J3.out.below hb); have a0 := J4.out.C1.c0; have a1 := J4.out.C1.c1; have b0 := J4.out.C2.c0; have b1 := J4.out.C2.c1; have q0 := J4.out.q0; have q1 := J4.out.q1; have q2 := J4.out.q2; have q3 := J4.out.q3; clear hb)))
  refine bodyPost_ret (results_row_tmp rfl _ _ (w.heap.size + 1 + 1) 24 _ (0, 0) _ _ rfl rfl (heap_set2 J4.out.R _ _) Try.underlying24 (by kernel_rfl) (by kernel_rfl)) rfl ?_
  exact ⟨_, rfl, World.ownsRow_nil _ _ _ _, bel_set2 J4.out.B _ (by omega) _ _⟩
set_option maxRecDepth 100000 in
set_option maxHeartbeats 1600000 in
theorem join_bad2 (we1 : Int) (A1 : Option Addr) (c1 : Nat) (hs1 : List Int) (we2 : Int) (A2 : Option Addr) (c2 : Nat) (hs2 : List Int) (w : World) (h1 : CalIn w we1 A1 c1 hs1) (h2 : CalIn w we2 A2 c2 hs2) (hc1 : ∀ w', Below w.heap.size w w' → ChkS we1 A1 c1 hs1 0 w') (hc2 : ∀ w', Below w.heap.size w w' → ChkS we2 A2 c2 hs2 8 w') : JoinS we1 A1 c1 hs1 we2 A2 c2 hs2 0 [] 8 w := by
  have hJ := joB_new we1 A1 c1 hs1 we2 A2 c2 hs2 w h1.rd h2.rd
  obtain ⟨W3, hW3⟩ : ∃ W3, ((w.alloc (.cells #[.int .u8 we1, .slice A1 hs1.length c1] 24)).alloc (.cells #[.int .u8 we2, .slice A2 hs2.length c2] 24)).alloc (.cells #[.int .u8 0, .slice none 0 0] 24) = W3 := ⟨_, rfl⟩
  rw [hW3] at hJ
  have J3 := Lib.hid hJ
  have HC1 : Hid (∀ w', Below w.heap.size w w' → Calls _ _ _ _ _) := hc1
  have HC2 : Hid (∀ w', Below w.heap.size w w' → Calls _ _ _ _ _) := hc2
  have a0 := hJ.C1.c0
  have a1 := hJ.C1.c1
  have b0 := hJ.C2.c0
  have b1 := hJ.C2.c1
  have q0 := hJ.q0
  have q1 := hJ.q1
  have q2 := hJ.q2
  have q3 := hJ.q3
  clear hJ h1 h2 hc1 hc2
  show Calls _ _ _ _ _
  go_enter Try.func7, Try.ntmps7
  go_wp2_with (first
    | (go_at_call 10; ((with_reducible refine (HC1.out _ J3.out.B).mono ?_); rintro x w4 ⟨rfl, hb⟩; have J4 := Lib.hid (J3.out.below hb); have a0 := J4.out.C1.c0; have a1 := J4.out.C1.c1; have b0 := J4.out.C2.c0; have b1 := J4.out.C2.c1; have q0 := J4.out.q0; have q1 := J4.out.q1; have q2 := J4.out.q2; have q3 := J4.out.q3; clear hb))
    | (go_at_call 10; ((with_reducible refine (HC2.out _ J4.out.B).mono ?_); rintro x w5 ⟨rfl, hb⟩; have J5 := Lib.hid (J4.out.below hb); have a0 := J5.out.C1.c0; have a1 := J5.out.C1.c1; have b0 := J5.out.C2.c0; have b1 := J5.out.C2.c1; have q0 := J5.out.q0; have q1 := J5.out.q1; have q2 := J5.out.q2; have q3 := J5.out.q3; clear hb)))
  refine bodyPost_ret (results_row_tmp rfl _ _ (w.heap.size + 1 + 1) 24 _ (0, 0) _ _ rfl rfl (heap_set2 J5.out.R _ _) Try.underlying24 (by kernel_rfl) (by kernel_rfl)) rfl ?_
  exact ⟨_, rfl, World.ownsRow_nil _ _ _ _, bel_set2 J5.out.B _ (by omega) _ _⟩
set_option maxRecDepth 100000 in
set_option maxHeartbeats 1600000 in
theorem join_none (we1 : Int) (A1 : Option Addr) (c1 : Nat) (hs1 : List Int) (we2 : Int) (A2 : Option Addr) (c2 : Nat) (hs2 : List Int) (W : Int) (w : World) (h1 : CalIn w we1 A1 c1 hs1) (h2 : CalIn w we2 A2 c2 hs2) (hc1 : ∀ w', Below w.heap.size w w' → ChkS we1 A1 c1 hs1 0 w') (hc2 : ∀ w', Below w.heap.size w w' → ChkS we2 A2 c2 hs2 0 w') (hbit : bits BinOp.or IntKind.u8 we1 we2 = W) (hW : W = 127) : JoinS we1 A1 c1 hs1 we2 A2 c2 hs2 0 [] 6 w := by
  have hJ := joB_new we1 A1 c1 hs1 we2 A2 c2 hs2 w h1.rd h2.rd
  obtain ⟨W3, hW3⟩ : ∃ W3, ((w.alloc (.cells #[.int .u8 we1, .slice A1 hs1.length c1] 24)).alloc (.cells #[.int .u8 we2, .slice A2 hs2.length c2] 24)).alloc (.cells #[.int .u8 0, .slice none 0 0] 24) = W3 := ⟨_, rfl⟩
  rw [hW3] at hJ
  have J3 := Lib.hid hJ
  have HC1 : Hid (∀ w', Below w.heap.size w w' → Calls _ _ _ _ _) := hc1
  have HC2 : Hid (∀ w', Below w.heap.size w w' → Calls _ _ _ _ _) := hc2
  have a0 := hJ.C1.c0
  have a1 := hJ.C1.c1
  have b0 := hJ.C2.c0
  have b1 := hJ.C2.c1
  have q0 := hJ.q0
  have q1 := hJ.q1
  have q2 := hJ.q2
  have q3 := hJ.q3
  clear hJ h1 h2 hc1 hc2
  subst hW
  show Calls _ _ _ _ _
  go_enter Try.func7, Try.ntmps7
  go_wp2_with (first
    | (go_at_call 10; ((with_reducible refine (HC1.out _ J3.out.B).mono ?_); rintro x w4 ⟨rfl, hb⟩; have J4 := Lib.hid (J3.out.below hb); have a0 := J4.out.C1.c0; have a1 := J4.out.C1.c1; have b0 := J4.out.C2.c0; have b1 := J4.out.C2.c1; have q0 := J4.out.q0; have q1 := J4.out.q1; have q2 := J4.out.q2; have q3 := J4.out.q3; clear hb))
    | (go_at_call 10; ((with_reducible refine (HC2.out _ J4.out.B).mono ?_); rintro x w5 ⟨rfl, hb⟩; have J5 := Lib.hid (J4.out.below hb); have a0 := J5.out.C1.c0; have a1 := J5.out.C1.c1; have b0 := J5.out.C2.c0; have b1 := J5.out.C2.c1; have q0 := J5.out.q0; have q1 := J5.out.q1; have q2 := J5.out.q2; have q3 := J5.out.q3; clear hb)))
  refine bodyPost_ret (results_row_tmp rfl _ _ (w.heap.size + 1 + 1) 24 _ (0, 0) _ _ rfl rfl (heap_set2 J5.out.R _ _) Try.underlying24 (by kernel_rfl) (by kernel_rfl)) rfl ?_
  exact ⟨_, rfl, World.ownsRow_nil _ _ _ _, bel_set2 J5.out.B _ (by omega) _ _⟩
set_option maxRecDepth 100000 in
set_option maxHeartbeats 1600000 in
theorem join_many (we1 : Int) (A1 : Option Addr) (c1 : Nat) (hs1 : List Int) (we2 : Int) (A2 : Option Addr) (c2 : Nat) (hs2 : List Int) (W : Int) (U : List Int) (w : World) (h1 : CalIn w we1 A1 c1 hs1) (h2 : CalIn w we2 A2 c2 hs2) (hc1 : ∀ w', Below w.heap.size w w' → ChkS we1 A1 c1 hs1 0 w') (hc2 : ∀ w', Below w.heap.size w w' → ChkS we2 A2 c2 hs2 0 w') (hu : ∀ w', Below w.heap.size w w' → UniS A1 c1 hs1 A2 c2 hs2 U w') (hbit : bits BinOp.or IntKind.u8 we1 we2 = W) (hW : W ≠ 127) (hl : 1000 < (U.length : Int)) : JoinS we1 A1 c1 hs1 we2 A2 c2 hs2 0 [] 4 w := by
  have hJ := joB_new we1 A1 c1 hs1 we2 A2 c2 hs2 w h1.rd h2.rd
  obtain ⟨W3, hW3⟩ : ∃ W3, ((w.alloc (.cells #[.int .u8 we1, .slice A1 hs1.length c1] 24)).alloc (.cells #[.int .u8 we2, .slice A2 hs2.length c2] 24)).alloc (.cells #[.int .u8 0, .slice none 0 0] 24) = W3 := ⟨_, rfl⟩
  rw [hW3] at hJ
  have J3 := Lib.hid hJ
  have HC1 : Hid (∀ w', Below w.heap.size w w' → Calls _ _ _ _ _) := hc1
  have HC2 : Hid (∀ w', Below w.heap.size w w' → Calls _ _ _ _ _) := hc2
  have HU : Hid (∀ w', Below w.heap.size w w' → Calls _ _ _ _ _) := hu
  have a0 := hJ.C1.c0
  have a1 := hJ.C1.c1
  have b0 := hJ.C2.c0
  have b1 := hJ.C2.c1
  have q0 := hJ.q0
  have q1 := hJ.q1
  have q2 := hJ.q2
  have q3 := hJ.q3
  clear hJ h1 h2 hc1 hc2 hu
  have hw1 : (W == 127) = false := by rw [beq_eq_false_iff_ne]; exact hW
  clear hW
  show Calls _ _ _ _ _
  go_enter Try.func7, Try.ntmps7
  go_wp2_with (first
    | (go_at_call 10; ((with_reducible refine (HC1.out _ J3.out.B).mono ?_); rintro x w4 ⟨rfl, hb⟩; have J4 := Lib.hid (J3.out.below hb); have a0 := J4.out.C1.c0; have a1 := J4.out.C1.c1; have b0 := J4.out.C2.c0; have b1 := J4.out.C2.c1; have q0 := J4.out.q0; have q1 := J4.out.q1; have q2 := J4.out.q2; have q3 := J4.out.q3; clear hb))
    | (go_at_call 10; ((with_reducible refine (HC2.out _ J4.out.B).mono ?_); rintro x w5 ⟨rfl, hb⟩; have J5 := Lib.hid (J4.out.below hb); have a0 := J5.out.C1.c0; have a1 := J5.out.C1.c1; have b0 := J5.out.C2.c0; have b1 := J5.out.C2.c1; have q0 := J5.out.q0; have q1 := J5.out.q1; have q2 := J5.out.q2; have q3 := J5.out.q3; clear hb))
    | (go_at_call 16; ((with_reducible refine (HU.out _ J5.out.B).mono ?_); rintro x w6 ⟨v, rfl, ho, hb⟩; obtain ⟨A, c, rfl, _, _, _, _, _⟩ := HsA.of_own ho; have O6 := Lib.hid ho; have Z5 := Lib.hid (lt_of_block J5.out.R); have J6 := Lib.hid (J5.out.below hb); have a0 := J6.out.C1.c0; have a1 := J6.out.C1.c1; have b0 := J6.out.C2.c0; have b1 := J6.out.C2.c1; have q0 := J6.out.q0; have q1 := J6.out.q1; have q2 := J6.out.q2; have q3 := J6.out.q3; clear hb ho)))
  refine bodyPost_ret (results_row_tmp rfl _ _ (w.heap.size + 1 + 1) 24 _ (0, 0) _ _ rfl rfl (heap_set2 J6.out.R _ _) Try.underlying24 (by kernel_rfl) (by kernel_rfl)) rfl ?_
  exact ⟨_, rfl, World.ownsRow_nil _ _ _ _, bel_set2 J6.out.B _ (by omega) _ _⟩
set_option maxRecDepth 100000 in
set_option maxHeartbeats 1600000 in
theorem join_ok (we1 : Int) (A1 : Option Addr) (c1 : Nat) (hs1 : List Int) (we2 : Int) (A2 : Option Addr) (c2 : Nat) (hs2 : List Int) (W : Int) (U : List Int) (w : World) (h1 : CalIn w we1 A1 c1 hs1) (h2 : CalIn w we2 A2 c2 hs2) (hc1 : ∀ w', Below w.heap.size w w' → ChkS we1 A1 c1 hs1 0 w') (hc2 : ∀ w', Below w.heap.size w w' → ChkS we2 A2 c2 hs2 0 w') (hu : ∀ w', Below w.heap.size w w' → UniS A1 c1 hs1 A2 c2 hs2 U w') (hbit : bits BinOp.or IntKind.u8 we1 we2 = W) (hW : W ≠ 127) (hl : (U.length : Int) ≤ 1000) : JoinS we1 A1 c1 hs1 we2 A2 c2 hs2 W U 0 w := by
  have hJ := joB_new we1 A1 c1 hs1 we2 A2 c2 hs2 w h1.rd h2.rd
  obtain ⟨W3, hW3⟩ : ∃ W3, ((w.alloc (.cells #[.int .u8 we1, .slice A1 hs1.length c1] 24)).alloc (.cells #[.int .u8 we2, .slice A2 hs2.length c2] 24)).alloc (.cells #[.int .u8 0, .slice none 0 0] 24) = W3 := ⟨_, rfl⟩
  rw [hW3] at hJ
  have J3 := Lib.hid hJ
  have HC1 : Hid (∀ w', Below w.heap.size w w' → Calls _ _ _ _ _) := hc1
  have HC2 : Hid (∀ w', Below w.heap.size w w' → Calls _ _ _ _ _) := hc2
  have HU : Hid (∀ w', Below w.heap.size w w' → Calls _ _ _ _ _) := hu
  have a0 := hJ.C1.c0
  have a1 := hJ.C1.c1
  have b0 := hJ.C2.c0
  have b1 := hJ.C2.c1
  have q0 := hJ.q0
  have q1 := hJ.q1
  have q2 := hJ.q2
  have q3 := hJ.q3
  clear hJ h1 h2 hc1 hc2 hu
  have hw1 : (W == 127) = false := by rw [beq_eq_false_iff_ne]; exact hW
  clear hW
  show Calls _ _ _ _ _
  go_enter Try.func7, Try.ntmps7
  go_wp2_with (first
    | (go_at_call 10; ((with_reducible refine (HC1.out _ J3.out.B).mono ?_); rintro x w4 ⟨rfl, hb⟩; have J4 := Lib.hid (J3.out.below hb); have a0 := J4.out.C1.c0; have a1 := J4.out.C1.c1; have b0 := J4.out.C2.c0; have b1 := J4.out.C2.c1; have q0 := J4.out.q0; have q1 := J4.out.q1; have q2 := J4.out.q2; have q3 := J4.out.q3; clear hb))
    | (go_at_call 10; ((with_reducible refine (HC2.out _ J4.out.B).mono ?_); rintro x w5 ⟨rfl, hb⟩; have J5 := Lib.hid (J4.out.below hb); have a0 := J5.out.C1.c0; have a1 := J5.out.C1.c1; have b0 := J5.out.C2.c0; have b1 := J5.out.C2.c1; have q0 := J5.out.q0; have q1 := J5.out.q1; have q2 := J5.out.q2; have q3 := J5.out.q3; clear hb))
    | (go_at_call 16; ((with_reducible refine (HU.out _ J5.out.B).mono ?_); rintro x w6 ⟨v, rfl, ho, hb⟩; obtain ⟨A, c, rfl, _, _, _, _, _⟩ := HsA.of_own ho; have O6 := Lib.hid ho; have Z5 := Lib.hid (lt_of_block J5.out.R); have J6 := Lib.hid (J5.out.below hb); have a0 := J6.out.C1.c0; have a1 := J6.out.C1.c1; have b0 := J6.out.C2.c0; have b1 := J6.out.C2.c1; have q0 := J6.out.q0; have q1 := J6.out.q1; have q2 := J6.out.q2; have q3 := J6.out.q3; clear hb ho)))
  refine bodyPost_ret (results_row_tmp rfl _ _ (w.heap.size + 1 + 1) 24 _ (0, 0) _ _ rfl rfl (heap_set2 J6.out.R _ _) Try.underlying24 (by kernel_rfl) (by kernel_rfl)) rfl ?_
  exact ⟨_, rfl, own_base (own_set (own_set O6.out (p := ⟨w.heap.size + 1 + 1, 0, none⟩) Z5.out _) (p := ⟨w.heap.size + 1 + 1, 1, none⟩) Z5.out _) (by have := Z5.out; omega), bel_set2 J6.out.B _ (by omega) _ _⟩
end Go.Proofs.Ytgnmcjfocnnffaa

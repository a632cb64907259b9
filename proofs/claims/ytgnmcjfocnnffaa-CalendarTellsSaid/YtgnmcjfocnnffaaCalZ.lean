/- Layer 4: the reference's Join: its memory. -/
import Derived.Test.YtgnmcjfocnnffaaCalY
import Derived.Test.YtgnmcjfocnnffaaCalH
namespace Go.Proofs.Ytgnmcjfocnnffaa
open Go Go.RowKit

section
variable (we1 : Int) (A1 : Option Addr) (c1 : Nat) (hs1 : List Int) (we2 : Int) (A2 : Option Addr) (c2 : Nat) (hs2 : List Int)
/-- The world when the reference's Join works on its own box: its weekend and its row. -/
structure RjO (w W : World) (O : Nat) (X : Int) (v : Value) : Prop where
  b1 : W.heap[w.heap.size]? = some (.cells #[.int .u8 we1, .slice A1 hs1.length c1] 24 (0, 0))
  b2 : W.heap[w.heap.size + 1]? = some (.cells #[.int .u8 we2, .slice A2 hs2.length c2] 24 (0, 0))
  r : W.heap[w.heap.size + 1 + 1]? = some (.cells #[.int .u8 0, .slice none 0 0] 24 (0, 0))
  o : W.heap[O]? = some (.cells #[.int .u8 X, v] 24 (0, 0))
  B : Below w.heap.size w W
  hO : w.heap.size + 1 + 1 < O
end
section
variable {we1 : Int} {A1 : Option Addr} {c1 : Nat} {hs1 : List Int} {we2 : Int} {A2 : Option Addr} {c2 : Nat} {hs2 : List Int} {w W : World} {O : Nat} {X : Int} {v : Value}
theorem RjO.ka0 (h : RjO we1 A1 c1 hs1 we2 A2 c2 hs2 w W O X v) : W.cell? ⟨w.heap.size, 0, none⟩ = some (.int .u8 we1) := by unfold World.cell?; rw [h.b1]; rfl
theorem RjO.ka1 (h : RjO we1 A1 c1 hs1 we2 A2 c2 hs2 w W O X v) : W.cell? ⟨w.heap.size, 1, none⟩ = some (.slice A1 hs1.length c1) := by unfold World.cell?; rw [h.b1]; rfl
theorem RjO.kb0 (h : RjO we1 A1 c1 hs1 we2 A2 c2 hs2 w W O X v) : W.cell? ⟨w.heap.size + 1, 0, none⟩ = some (.int .u8 we2) := by unfold World.cell?; rw [h.b2]; rfl
theorem RjO.kb1 (h : RjO we1 A1 c1 hs1 we2 A2 c2 hs2 w W O X v) : W.cell? ⟨w.heap.size + 1, 1, none⟩ = some (.slice A2 hs2.length c2) := by unfold World.cell?; rw [h.b2]; rfl
theorem RjO.ko0 (h : RjO we1 A1 c1 hs1 we2 A2 c2 hs2 w W O X v) : W.cell? ⟨O, 0, none⟩ = some (.int .u8 X) := by unfold World.cell?; rw [h.o]; rfl
theorem RjO.ko1 (h : RjO we1 A1 c1 hs1 we2 A2 c2 hs2 w W O X v) : W.cell? ⟨O, 1, none⟩ = some v := by unfold World.cell?; rw [h.o]; rfl
theorem RjO.fo0 (h : RjO we1 A1 c1 hs1 we2 A2 c2 hs2 w W O X v) : W.frozen? ⟨O, 0, none⟩ = false := by unfold World.frozen?; rw [h.o]; rfl
theorem RjO.fo1 (h : RjO we1 A1 c1 hs1 we2 A2 c2 hs2 w W O X v) : W.frozen? ⟨O, 1, none⟩ = false := by unfold World.frozen?; rw [h.o]; rfl
theorem RjO.q0 (h : RjO we1 A1 c1 hs1 we2 A2 c2 hs2 w W O X v) : W.cell? ⟨w.heap.size + 1 + 1, 0, none⟩ = some (.int .u8 0) := by unfold World.cell?; rw [h.r]; rfl
theorem RjO.q1 (h : RjO we1 A1 c1 hs1 we2 A2 c2 hs2 w W O X v) : W.cell? ⟨w.heap.size + 1 + 1, 1, none⟩ = some (.slice none 0 0) := by unfold World.cell?; rw [h.r]; rfl
theorem RjO.q2 (h : RjO we1 A1 c1 hs1 we2 A2 c2 hs2 w W O X v) : W.frozen? ⟨w.heap.size + 1 + 1, 0, none⟩ = false := by unfold World.frozen?; rw [h.r]; rfl
theorem RjO.q3 (h : RjO we1 A1 c1 hs1 we2 A2 c2 hs2 w W O X v) : W.frozen? ⟨w.heap.size + 1 + 1, 1, none⟩ = false := by unfold World.frozen?; rw [h.r]; rfl
theorem RjO.set0 (h : RjO we1 A1 c1 hs1 we2 A2 c2 hs2 w W O X v) (X' : Int) : RjO we1 A1 c1 hs1 we2 A2 c2 hs2 w (W.setCell ⟨O, 0, none⟩ (.int .u8 X')) O X' v := by
  have hO := h.hO
  exact ⟨(Below.heap_setCell W ⟨O, 0, none⟩ _ _ (by show _ ≠ O; omega)).trans h.b1, (Below.heap_setCell W ⟨O, 0, none⟩ _ _ (by show _ ≠ O; omega)).trans h.b2, (Below.heap_setCell W ⟨O, 0, none⟩ _ _ (by show _ ≠ O; omega)).trans h.r, heap_setCell_same W O 0 _ _ _ h.o, h.B.setCell (p := ⟨O, 0, none⟩) (by show w.heap.size ≤ O; omega) _, hO⟩
theorem RjO.set1 (h : RjO we1 A1 c1 hs1 we2 A2 c2 hs2 w W O X v) (v' : Value) : RjO we1 A1 c1 hs1 we2 A2 c2 hs2 w (W.setCell ⟨O, 1, none⟩ v') O X v' := by
  have hO := h.hO
  exact ⟨(Below.heap_setCell W ⟨O, 1, none⟩ _ _ (by show _ ≠ O; omega)).trans h.b1, (Below.heap_setCell W ⟨O, 1, none⟩ _ _ (by show _ ≠ O; omega)).trans h.b2, (Below.heap_setCell W ⟨O, 1, none⟩ _ _ (by show _ ≠ O; omega)).trans h.r, heap_setCell_same W O 1 _ _ _ h.o, h.B.setCell (p := ⟨O, 1, none⟩) (by show w.heap.size ≤ O; omega) _, hO⟩
theorem RjO.up {W' : World} (h : RjO we1 A1 c1 hs1 we2 A2 c2 hs2 w W O X v) (hb : Below (O + 1) W W') : RjO we1 A1 c1 hs1 we2 A2 c2 hs2 w W' O X v := by
  have hO := h.hO
  exact ⟨(hb.block _ (by omega)).trans h.b1, (hb.block _ (by omega)).trans h.b2, (hb.block _ (by omega)).trans h.r, (hb.block _ (by omega)).trans h.o, h.B.trans (hb.mono (by omega)), hO⟩
theorem RjO.new (h : JoB we1 A1 c1 hs1 we2 A2 c2 hs2 w W) : RjO we1 A1 c1 hs1 we2 A2 c2 hs2 w (W.alloc (.cells #[.int .u8 0, .slice none 0 0] 24)) W.heap.size 0 (.slice none 0 0) := by
  have hb := bel1 W (.cells #[.int .u8 0, .slice none 0 0] 24)
  have h1 := lt_of_block h.C1.blk
  have h2 := lt_of_block h.C2.blk
  have h3 := lt_of_block h.R
  exact ⟨(hb.block _ h1).trans h.C1.blk, (hb.block _ h2).trans h.C2.blk, (hb.block _ h3).trans h.R, heap_alloc_new _ _, bt h.B hb, h3⟩
end
def RJoS (we1 : Int) (A1 : Option Addr) (c1 : Nat) (hs1 : List Int) (we2 : Int) (A2 : Option Addr) (c2 : Nat) (hs2 : List Int) (W : Int) (L : List Int) (E : Int) (w : World) : Prop :=
  Calls Try.prog 8 #[.agg #[.int .u8 we1, .slice A1 hs1.length c1], .agg #[.int .u8 we2, .slice A2 hs2.length c2]] w (JoinR W L E w)

set_option maxRecDepth 100000 in
set_option maxHeartbeats 1600000 in
theorem rjoin_bad1 (we1 : Int) (A1 : Option Addr) (c1 : Nat) (hs1 : List Int) (we2 : Int) (A2 : Option Addr) (c2 : Nat) (hs2 : List Int) (w : World) (h1 : CalIn w we1 A1 c1 hs1) (h2 : CalIn w we2 A2 c2 hs2) (hc1 : ∀ w', Below w.heap.size w w' → ValS we1 A1 c1 hs1 false w') : RJoS we1 A1 c1 hs1 we2 A2 c2 hs2 0 [] 8 w := by
  have hJ := joB_new we1 A1 c1 hs1 we2 A2 c2 hs2 w h1.rd h2.rd
  obtain ⟨W3, hW3⟩ : ∃ W3, ((w.alloc (.cells #[.int .u8 we1, .slice A1 hs1.length c1] 24)).alloc (.cells #[.int .u8 we2, .slice A2 hs2.length c2] 24)).alloc (.cells #[.int .u8 0, .slice none 0 0] 24) = W3 := ⟨_, rfl⟩
  rw [hW3] at hJ
  have J3 := Lib.hid hJ
  have HC1 : Hid (∀ w', Below w.heap.size w w' → Calls _ _ _ _ _) := hc1
  have a0 := hJ.C1.c0
  have a1 := hJ.C1.c1
  have b0 := hJ.C2.c0
  have b1 := hJ.C2.c1
  have q0 := hJ.q0
  have q1 := hJ.q1
  have q2 := hJ.q2
  have q3 := hJ.q3
  clear hJ h1 h2 hc1
  show Calls _ _ _ _ _
  go_enter Try.func8, Try.ntmps8
  go_wp2_with (first
    | (go_at_call 11; ((with_reducible refine (HC1.out _ J3.out.B).mono ?_); rintro x w4 ⟨rfl, hb⟩; have J4 := Lib.hid (J3.out.below hb); have a0 := J4.out.C1.c0; have a1 := J4.out.C1.c1; have b0 := J4.out.C2.c0; have b1 := J4.out.C2.c1; have q0 := J4.out.q0; have q1 := J4.out.q1; have q2 := J4.out.q2; have q3 := J4.out.q3; clear hb)))
  refine bodyPost_ret (results_row_tmp rfl _ _ (w.heap.size + 1 + 1) 24 _ (0, 0) _ _ rfl rfl (heap_set2 J4.out.R _ _) Try.underlying24 (by kernel_rfl) (by kernel_rfl)) rfl ?_
  exact ⟨_, rfl, World.ownsRow_nil _ _ _ _, bel_set2 J4.out.B _ (by omega) _ _⟩

set_option maxRecDepth 100000 in
set_option maxHeartbeats 1600000 in
theorem rjoin_bad2 (we1 : Int) (A1 : Option Addr) (c1 : Nat) (hs1 : List Int) (we2 : Int) (A2 : Option Addr) (c2 : Nat) (hs2 : List Int) (w : World) (h1 : CalIn w we1 A1 c1 hs1) (h2 : CalIn w we2 A2 c2 hs2) (hc1 : ∀ w', Below w.heap.size w w' → ValS we1 A1 c1 hs1 true w') (hc2 : ∀ w', Below w.heap.size w w' → ValS we2 A2 c2 hs2 false w') : RJoS we1 A1 c1 hs1 we2 A2 c2 hs2 0 [] 8 w := by
  have hJ := joB_new we1 A1 c1 hs1 we2 A2 c2 hs2 w h1.rd h2.rd
  obtain ⟨W3, hW3⟩ : ∃ W3, ((w.alloc (.cells #[.int .u8 we1, .slice A1 hs1.length c1] 24)).alloc (.cells #[.int .u8 we2, .slice A2 hs2.length c2] 24)).alloc (.cells #[.int .u8 0, .slice none 0 0] 24) = W3 := ⟨_, rfl⟩
  rw [hW3] at hJ
  have J3 := Lib.hid hJ
  have HC1 : Hid (∀ w', Below w.heap.size w w' → Calls _ _ _ _ _) := hc1
  have HC2 : Hid (∀ w', Below w.heap.size w w' → Calls _ _ _ _ _) := hc2
  have a0 := hJ.C1.c0
  have a1 := hJ.C1.c1
  have b0 := hJ.C2.c0
  have b1 := hJ.C2.c1
  clear hJ h1 h2 hc1 hc2
  show Calls _ _ _ _ _
  go_enter Try.func8, Try.ntmps8
  go_wp2_with (first
    | (go_at_call 11; ((with_reducible refine (HC1.out _ J3.out.B).mono ?_); rintro x w4 ⟨rfl, hb⟩; have J4 := Lib.hid (J3.out.below hb); have a0 := J4.out.C1.c0; have a1 := J4.out.C1.c1; have b0 := J4.out.C2.c0; have b1 := J4.out.C2.c1; clear hb))
    | (go_at_call 11; ((with_reducible refine (HC2.out _ J4.out.B).mono ?_); rintro x w5 ⟨rfl, hb⟩; have J5 := Lib.hid (J4.out.below hb); have q0 := J5.out.q0; have q1 := J5.out.q1; have q2 := J5.out.q2; have q3 := J5.out.q3; clear hb)))
  refine bodyPost_ret (results_row_tmp rfl _ _ (w.heap.size + 1 + 1) 24 _ (0, 0) _ _ rfl rfl (heap_set2 J5.out.R _ _) Try.underlying24 (by kernel_rfl) (by kernel_rfl)) rfl ?_
  exact ⟨_, rfl, World.ownsRow_nil _ _ _ _, bel_set2 J5.out.B _ (by omega) _ _⟩
end Go.Proofs.Ytgnmcjfocnnffaa

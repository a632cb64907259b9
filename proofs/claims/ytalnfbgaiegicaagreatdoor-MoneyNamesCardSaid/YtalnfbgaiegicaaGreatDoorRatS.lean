/- The walks of layer 2: products by a closure that keeps the first error. -/
import Derived.Test.YtalnfbgaiegicaaGreatDoorRatA
import Derived.Test.YtalnfbgaiegicaaGreatDoorRatV
import Derived.Deep.RegionLaw
import Derived.Deep.RegionHeld3
import Derived.StillTailTactics
namespace Go.Proofs.YtalnfbgaiegicaaGreatDoor
open Go Go.RowKit

/-- A result with its error. -/
def StE (r : ByteArray) (c : Int) (w : World) (e : Ending) (w' : World) : Prop := e = .returned (.tuple #[.string r, .int .i64 c]) ∧ Below w.heap.size w w'
/-- What a product leaves: nothing that was there changes but the kept error. -/
def TimR (r : ByteArray) (q : Nat) (c : Int) (w : World) (e : Ending) (w' : World) : Prop := e = .returned (.string r) ∧ Below w.heap.size (w.setCell ⟨q, 0, none⟩ (.int .i64 c)) w'
theorem below_set {N : Nat} {w w1 : World} (h : Below N w w1) (p : Addr) (v : Value) : Below N (w.setCell p v) (w1.setCell p v) :=
  ⟨h.os, h.tape, h.output, by simp only [World.setCell, Array.size_modify]; exact h.size, fun k hk => by simp only [World.setCell, Array.getElem?_modify, h.block k hk]⟩
theorem set_size (w : World) (p : Addr) (v : Value) : (w.setCell p v).heap.size = w.heap.size := by simp only [World.setCell, Array.size_modify]
/-- What a product leaves, from further below. -/
theorem tim_below {N q : Nat} {w0 w w' : World} {v : Value} (D : Below N w0 w) (hN : N ≤ w.heap.size) (hq : N ≤ q) (b : Below w.heap.size (w.setCell ⟨q, 0, none⟩ v) w') : Below N w0 w' :=
  (D.setCell (p := ⟨q, 0, none⟩) hq v).trans (b.mono hN)
theorem tim_cell {q : Nat} {w w' : World} {u v : Value} (h : w.cell? ⟨q, 0, none⟩ = some u) (b : Below w.heap.size (w.setCell ⟨q, 0, none⟩ v) w') : w'.cell? ⟨q, 0, none⟩ = some v :=
  (b.cell (p := ⟨q, 0, none⟩) (World.block_lt_of_cell? w _ h)).trans (World.cell?_setCell_same _ _ _ h)
theorem tim_far {q r o : Nat} {w w' : World} {u v : Value} (h : w.cell? ⟨r, o, none⟩ = some u) (hne : q ≠ r) (b : Below w.heap.size (w.setCell ⟨q, 0, none⟩ v) w') : w'.cell? ⟨r, o, none⟩ = some u :=
  (b.cell (p := ⟨r, o, none⟩) (World.block_lt_of_cell? w _ h)).trans ((World.cell?_setCell_far _ _ _ _ hne).trans h)
theorem tim_frozen {q r o : Nat} {w w' : World} {u v : Value} (h : w.cell? ⟨r, o, none⟩ = some u) (hf : w.frozen? ⟨r, o, none⟩ = false) (b : Below w.heap.size (w.setCell ⟨q, 0, none⟩ v) w') : w'.frozen? ⟨r, o, none⟩ = false :=
  (b.frozen (p := ⟨r, o, none⟩) (World.block_lt_of_cell? w _ h)).trans ((by rw [World.frozen?_setCell] : (w.setCell ⟨q, 0, none⟩ v).frozen? ⟨r, o, none⟩ = w.frozen? ⟨r, o, none⟩).trans hf)
def OrR (c : Int) (w : World) (e : Ending) (w' : World) : Prop := e = .returned (.int .i64 c) ∧ w = w'
set_option maxRecDepth 100000 in
set_option maxHeartbeats 1600000 in
theorem rtimes_any (s t r : ByteArray) (c c2 c3 : Int) (hc : (if c = 0 then c2 else c) = c3) (p q : Nat) (w : World) (hv : VarT w)
    (hp : w.cell? ⟨p, 0, none⟩ = some (.pointer (some ⟨q, 0, none⟩))) (hq : w.cell? ⟨q, 0, none⟩ = some (.int .i64 c)) (hf : w.frozen? ⟨q, 0, none⟩ = false)
    (HM : ∀ W, VarT W → Calls Tryz.prog 106 #[.string s, .string t] W (StE r c2 W)) :
    Calls Tryz.prog 105 #[.string s, .string t, .pointer (some ⟨p, 0, none⟩)] w (TimR r q c3 w) := by
  have JM := Lib.hid HM
  have HV := Lib.hid hv
  have HO : Hid (∀ (W : World) (ty : TypeId), Calls Tryz.prog 107 #[.slice (some ⟨W.heap.size, 0, none⟩) 2 2] (W.alloc (.cells #[.int .i64 c, .int .i64 c2] ty)).drew (OrR c3 (W.alloc (.cells #[.int .i64 c, .int .i64 c2] ty)).drew)) := fun W ty => by
    subst hc
    refine or_any _ c c2 _ ?_ ?_
    · rw [World.cell?_drew, World.cell?_alloc_at _ _ _ _ rfl]; rfl
    · rw [World.cell?_drew, World.cell?_alloc_at _ _ _ _ rfl]; rfl
  have hpl := World.block_lt_of_cell? w _ hp
  have hql := World.block_lt_of_cell? w _ hq
  have HP := Lib.hid hp
  have HQ := Lib.hid hq
  have HF := Lib.hid hf
  clear HM hv hc hp hq hf
  go_enter Tryz.func105, Tryz.ntmps105
  go_wp2_with (go_at_call 106; refine (JM.out _ HV.out).mono ?_; rintro e w1 ⟨rfl, b⟩; have B1 := Lib.hid b; have hp1 := (b.cell (p := ⟨p, 0, none⟩) hpl).trans HP.out; have hq1 := (b.cell (p := ⟨q, 0, none⟩) hql).trans HQ.out; have hf1 := (b.frozen (p := ⟨q, 0, none⟩) hql).trans HF.out; have hs1 := b.size; clear b)
  have hql1 : q < w1.heap.size := Nat.lt_of_lt_of_le hql hs1
  have hpl1 : p < w1.heap.size := Nat.lt_of_lt_of_le hpl hs1
  have hp2 : ∀ o, (w1.alloc o).cell? ⟨p, 0, none⟩ = some (.pointer (some ⟨q, 0, none⟩)) := fun o => (World.cell?_alloc_lt _ _ ⟨p, 0, none⟩ hpl1).trans hp1
  have hq2 : ∀ o, (w1.alloc o).cell? ⟨q, 0, none⟩ = some (.int .i64 c) := fun o => (World.cell?_alloc_lt _ _ ⟨q, 0, none⟩ hql1).trans hq1
  have hf2 : ∀ o, (w1.alloc o).frozen? ⟨q, 0, none⟩ = false := fun o => (((Below.refl _ w1).alloc (Nat.le_refl _) o).frozen (p := ⟨q, 0, none⟩) hql1).trans hf1
  go_region_law ((go_simp; go_at_call 107; refine (HO.out _ _).mono ?_; rintro e w2 ⟨rfl, rfl⟩))
  all_goals
    go_wp2
    go_ret
    exact ⟨rfl, Below.drew ((below_set B1.out _ _).alloc (by rw [set_size]; exact hs1) _)⟩
theorem tim_row {q r : Nat} {w w' : World} {t : TypeId} {cs : Array Value} {v : Value} (h : w.heap[r]? = some (.cells cs t (0, 0))) (hne : q ≠ r) (b : Below w.heap.size (w.setCell ⟨q, 0, none⟩ v) w') : w'.heap[r]? = some (.cells cs t (0, 0)) := by
  rw [b.block r (lt_of_block h)]
  simp [World.setCell, Array.getElem?_modify, hne, h]
/-- The state of the closure: what is known of the world with the kept error c in cell q, which cell p points to. -/
structure Clo (w0 : World) (p q : Nat) (c : Int) (w : World) : Prop where
  bl : Below w0.heap.size w0 w
  v : VarT w
  hp : w.cell? ⟨p, 0, none⟩ = some (.pointer (some ⟨q, 0, none⟩))
  hq : w.cell? ⟨q, 0, none⟩ = some (.int .i64 c)
  hf : w.frozen? ⟨q, 0, none⟩ = false
theorem Clo.drew {w0 : World} {p q : Nat} {c : Int} {w : World} (h : Clo w0 p q c w) : Clo w0 p q c w.drew :=
  ⟨Below.drew h.bl, ⟨h.v.sz, h.v.tab⟩, h.hp, h.hq, h.hf⟩
theorem Clo.call {w0 : World} {p q : Nat} {c : Int} {w : World} (h : Clo w0 p q c w) (s t r : ByteArray) (c2 c3 : Int) (hc : (if c = 0 then c2 else c) = c3)
    (HM : ∀ W, VarT W → Calls Tryz.prog 106 #[.string s, .string t] W (StE r c2 W)) :
    Calls Tryz.prog 105 #[.string s, .string t, .pointer (some ⟨p, 0, none⟩)] w (TimR r q c3 w) :=
  rtimes_any s t r c c2 c3 hc p q w h.v h.hp h.hq h.hf HM
theorem Clo.after {w0 : World} {p q : Nat} {c c3 : Int} {w w' : World} (h : Clo w0 p q c w) (hn : w0.heap.size ≤ q) (hne : q ≠ p) (hv : VarT w0) (b : Below w.heap.size (w.setCell ⟨q, 0, none⟩ (.int .i64 c3)) w') : Clo w0 p q c3 w' :=
  have B := tim_below h.bl h.bl.size hn b
  ⟨B, hv.below B, tim_far h.hp hne b, tim_cell h.hq b, tim_frozen h.hq h.hf b⟩
theorem multiplier_any (q : Nat) (w : World) :
    Calls Tryz.prog 59 #[.pointer (some ⟨q, 0, none⟩)] w fun e w' => e = .returned (.func (.func 105) #[] #[.pointer (some ⟨w.heap.size, 0, none⟩)]) ∧ w.alloc (.cells #[.pointer (some ⟨q, 0, none⟩)] 92) = w' := by
  have hmf : ∀ fn first cap w, (Instr.makeFunc fn first cap).run Tryz.prog w = .ok (.func fn first cap) w := fun _ _ _ _ => rfl
  go_enter Tryz.func59, Tryz.ntmps59
  go_wp2
  go_ret
  exact ⟨rfl, rfl⟩
/-- Five blocks that an operation lays: both arguments, the result, the kept error, the closure's variable. -/
theorem rows5 (w : World) (a b c d : Value) (t te tp : TypeId) (hv : VarT w) {w5 : World}
    (h5 : (((((w.alloc (.cells #[a, b] t (0, 0))).alloc (.cells #[c, d] t (0, 0))).alloc (.cells #[.string ⟨#[]⟩, .string ⟨#[]⟩] t (0, 0))).alloc (.cells #[.int .i64 0] te (0, 0))).alloc (.cells #[.pointer (some ⟨w.heap.size + 1 + 1 + 1, 0, none⟩)] tp (0, 0))) = w5) :
    Clo w (w.heap.size + 1 + 1 + 1 + 1) (w.heap.size + 1 + 1 + 1) 0 w5 ∧
    w5.cell? ⟨w.heap.size, 0, none⟩ = some a ∧ w5.cell? ⟨w.heap.size, 1, none⟩ = some b ∧ w5.cell? ⟨w.heap.size + 1, 0, none⟩ = some c ∧ w5.cell? ⟨w.heap.size + 1, 1, none⟩ = some d ∧
    w5.heap[w.heap.size + 1 + 1]? = some (.cells #[.string ⟨#[]⟩, .string ⟨#[]⟩] t (0, 0)) := by
  have hh : w5.heap = (((((w.heap.push (.cells #[a, b] t (0, 0))).push (.cells #[c, d] t (0, 0))).push (.cells #[.string ⟨#[]⟩, .string ⟨#[]⟩] t (0, 0))).push (.cells #[.int .i64 0] te (0, 0))).push (.cells #[.pointer (some ⟨w.heap.size + 1 + 1 + 1, 0, none⟩)] tp (0, 0))) := by subst h5; rfl
  have B : Below w.heap.size w w5 := by
    subst h5
    exact (((((Below.refl _ w).alloc (Nat.le_refl _) _).alloc (by simp) _).alloc (by simp; omega) _).alloc (by simp; omega) _).alloc (by simp; omega) _
  clear h5
  have g0 : w5.heap[w.heap.size]? = some (.cells #[a, b] t (0, 0)) := by
    rw [hh]; simp only [Array.getElem?_push, Array.size_push]
    rw [if_neg (by omega), if_neg (by omega), if_neg (by omega), if_neg (by omega), if_pos trivial]
  have g1 : w5.heap[w.heap.size + 1]? = some (.cells #[c, d] t (0, 0)) := by
    rw [hh]; simp only [Array.getElem?_push, Array.size_push]
    rw [if_neg (by omega), if_neg (by omega), if_neg (by omega), if_pos trivial]
  have g2 : w5.heap[w.heap.size + 1 + 1]? = some (.cells #[.string ⟨#[]⟩, .string ⟨#[]⟩] t (0, 0)) := by
    rw [hh]; simp only [Array.getElem?_push, Array.size_push]
    rw [if_neg (by omega), if_neg (by omega), if_pos trivial]
  have g3 : w5.heap[w.heap.size + 1 + 1 + 1]? = some (.cells #[.int .i64 0] te (0, 0)) := by
    rw [hh]; simp only [Array.getElem?_push, Array.size_push]
    rw [if_neg (by omega), if_pos trivial]
  have g4 : w5.heap[w.heap.size + 1 + 1 + 1 + 1]? = some (.cells #[.pointer (some ⟨w.heap.size + 1 + 1 + 1, 0, none⟩)] tp (0, 0)) := by
    rw [hh]; simp only [Array.getElem?_push, Array.size_push]
    rw [if_pos trivial]
  clear hh
  obtain ⟨k1, k2, _, _⟩ := row2 g0
  obtain ⟨k3, k4, _, _⟩ := row2 g1
  refine ⟨⟨B, hv.below B, ?_, ?_, ?_⟩, k1, k2, k3, k4, g2⟩
  · simp only [World.cell?, g4]; rfl
  · simp only [World.cell?, g3]; rfl
  · simp only [World.frozen?, g3]; rfl
end Go.Proofs.YtalnfbgaiegicaaGreatDoor

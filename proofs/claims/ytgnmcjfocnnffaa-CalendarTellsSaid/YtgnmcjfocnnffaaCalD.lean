/- Layer 4: the program's walks: the n-th business day. -/
import Derived.Test.YtgnmcjfocnnffaaCalC
namespace Go.Proofs.Ytgnmcjfocnnffaa
open Go Go.RowKit Go.Shelf

attribute [local go_sem] Oper.semAt_some

/-- What nth's own blocks hold. -/
structure NthI (w W : World) (B : Nat) (m v e : Int) : Prop where
  b0 : W.heap[w.heap.size]? = some (.cells #[.func (.func 19) #[] #[.pointer (some ⟨B, 0, none⟩)]] 39 (0, 0))
  b1 : W.heap[w.heap.size + 1]? = some (.cells #[.int .i64 m] 3 (0, 0))
  b2 : W.heap[w.heap.size + 1 + 1]? = some (.cells #[.int .i64 v] 3 (0, 0))
  b3 : W.heap[w.heap.size + 1 + 1 + 1]? = some (.cells #[.int .i64 e] 26 (0, 0))
  bel : Below w.heap.size w W
  sz : w.heap.size + 6 ≤ W.heap.size
theorem size_set (W : World) (a : Addr) (u : Value) : (W.setCell a u).heap.size = W.heap.size := by simp [World.setCell]
theorem block_kept {X Y : World} {row : Option Nat} {b r : Nat} {o : Obj} (hg : X.grownBy Y row) (hr : ∀ r, row = some r → b ≤ r ∧ ∃ o : Obj, X.heap[r]? = some o ∧ o.isCells = false) (h : X.heap[r]? = some o) (ho : o.isCells = true) : Y.heap[r]? = some o := by
  refine (hg.block r (lt_of_block h) (fun e => ?_)).trans h
  obtain ⟨_, o', ho', hc⟩ := hr r e.symm
  rw [h] at ho'
  injection ho' with ho'
  rw [← ho', ho] at hc
  cases hc
theorem NthI.own {w X Y : World} {B : Nat} {m v e : Int} {row : Option Nat} {b : Nat} (h : NthI w X B m v e) (hb : w.heap.size ≤ b) (hg : X.grownBy Y row) (hr : ∀ r, row = some r → b ≤ r ∧ ∃ o : Obj, X.heap[r]? = some o ∧ o.isCells = false) : NthI w Y B m v e :=
  ⟨block_kept hg hr h.b0 rfl, block_kept hg hr h.b1 rfl, block_kept hg hr h.b2 rfl, block_kept hg hr h.b3 rfl, ownFrom_below (β := Unit) (Nat.le_refl _) hb () X Y row h.bel hg hr, Nat.le_trans h.sz hg.size⟩
theorem NthI.set {w W : World} {B : Nat} {m v e : Int} (h : NthI w W B m v e) (a : Nat) (ha : w.heap.size + 4 ≤ a) (u : Value) : NthI w (W.setCell ⟨a, 0, none⟩ u) B m v e :=
  ⟨(Below.heap_setCell W ⟨a, 0, none⟩ u _ (by show _ ≠ a; omega)).trans h.b0, (Below.heap_setCell W ⟨a, 0, none⟩ u _ (by show _ ≠ a; omega)).trans h.b1, (Below.heap_setCell W ⟨a, 0, none⟩ u _ (by show _ ≠ a; omega)).trans h.b2,
    (Below.heap_setCell W ⟨a, 0, none⟩ u _ (by show _ ≠ a; omega)).trans h.b3, h.bel.setCell (p := ⟨a, 0, none⟩) (by show w.heap.size ≤ a; omega) u, by rw [size_set]; exact h.sz⟩
theorem NthI.below {w W W' : World} {B : Nat} {m v e : Int} (h : NthI w W B m v e) (hb : Below W.heap.size W W') : NthI w W' B m v e :=
  ⟨(hb.block _ (lt_of_block h.b0)).trans h.b0, (hb.block _ (lt_of_block h.b1)).trans h.b1, (hb.block _ (lt_of_block h.b2)).trans h.b2, (hb.block _ (lt_of_block h.b3)).trans h.b3, h.bel.trans (hb.mono h.bel.size), Nat.le_trans h.sz hb.size⟩
theorem NthI.set1 {w W : World} {B : Nat} {m v e : Int} (h : NthI w W B m v e) (u : Int) : NthI w (W.setCell ⟨w.heap.size + 1, 0, none⟩ (.int .i64 u)) B u v e :=
  ⟨(Below.heap_setCell W ⟨w.heap.size + 1, 0, none⟩ _ _ (by show _ ≠ w.heap.size + 1; omega)).trans h.b0, heap_setCell_same W _ 0 _ _ _ h.b1, (Below.heap_setCell W ⟨w.heap.size + 1, 0, none⟩ _ _ (by show _ ≠ w.heap.size + 1; omega)).trans h.b2,
    (Below.heap_setCell W ⟨w.heap.size + 1, 0, none⟩ _ _ (by show _ ≠ w.heap.size + 1; omega)).trans h.b3, h.bel.setCell (p := ⟨w.heap.size + 1, 0, none⟩) (by show w.heap.size ≤ w.heap.size + 1; omega) _, by rw [size_set]; exact h.sz⟩
theorem NthI.set2 {w W : World} {B : Nat} {m v e : Int} (h : NthI w W B m v e) (u : Int) : NthI w (W.setCell ⟨w.heap.size + 1 + 1, 0, none⟩ (.int .i64 u)) B m u e :=
  ⟨(Below.heap_setCell W ⟨w.heap.size + 1 + 1, 0, none⟩ _ _ (by show _ ≠ w.heap.size + 1 + 1; omega)).trans h.b0, (Below.heap_setCell W ⟨w.heap.size + 1 + 1, 0, none⟩ _ _ (by show _ ≠ w.heap.size + 1 + 1; omega)).trans h.b1, heap_setCell_same W _ 0 _ _ _ h.b2,
    (Below.heap_setCell W ⟨w.heap.size + 1 + 1, 0, none⟩ _ _ (by show _ ≠ w.heap.size + 1 + 1; omega)).trans h.b3, h.bel.setCell (p := ⟨w.heap.size + 1 + 1, 0, none⟩) (by show w.heap.size ≤ w.heap.size + 1 + 1; omega) _, by rw [size_set]; exact h.sz⟩
theorem NthI.set3 {w W : World} {B : Nat} {m v e : Int} (h : NthI w W B m v e) (u : Int) : NthI w (W.setCell ⟨w.heap.size + 1 + 1 + 1, 0, none⟩ (.int .i64 u)) B m v u :=
  ⟨(Below.heap_setCell W ⟨w.heap.size + 1 + 1 + 1, 0, none⟩ _ _ (by show _ ≠ w.heap.size + 1 + 1 + 1; omega)).trans h.b0, (Below.heap_setCell W ⟨w.heap.size + 1 + 1 + 1, 0, none⟩ _ _ (by show _ ≠ w.heap.size + 1 + 1 + 1; omega)).trans h.b1, (Below.heap_setCell W ⟨w.heap.size + 1 + 1 + 1, 0, none⟩ _ _ (by show _ ≠ w.heap.size + 1 + 1 + 1; omega)).trans h.b2,
    heap_setCell_same W _ 0 _ _ _ h.b3, h.bel.setCell (p := ⟨w.heap.size + 1 + 1 + 1, 0, none⟩) (by show w.heap.size ≤ w.heap.size + 1 + 1 + 1; omega) _, by rw [size_set]; exact h.sz⟩
theorem NthI.put {w W : World} {B : Nat} {m v e : Int} (h : NthI w W B m v e) (D : Nat) (hD : w.heap.size + 4 ≤ D) {o : Obj} (hK : W.heap[D]? = some o) (h1 : o.isCells = false) (h2 : o.isWalk = false) (o' : Obj) : NthI w (W.putObj D o') B m v e :=
  ⟨(World.putObj_heap_other (by omega)).trans h.b0, (World.putObj_heap_other (by omega)).trans h.b1, (World.putObj_heap_other (by omega)).trans h.b2, (World.putObj_heap_other (by omega)).trans h.b3,
    h.bel.trans (belowK_b (w := w) (Nat.le_refl _) W D o o' (by omega) hK h1 h2), by rw [World.putObj_size]; exact h.sz⟩
theorem callsIn_round {F : Fence} {n : Nat} {P : Program} {f : FuncId} {args : Array Value} {w : World} {R : Ending → World → Prop} (l : Nat) (h : CallsIn F n P f args w R) : CallsIn (F.inRound l) n P f args w R := h
/-- Two results, each in a cell of its own. -/
theorem results_cells2 {P : Program} {fn : Func} {p q : Tmp} {ty uy : TypeId} (h : fn.results = #[.cell p ty, .cell q uy]) (tmps : Array Value) (w : World) (g1 g2 : Nat) (v u : Value)
    (hp : tmps.getD p undef = .pointer (some ⟨g1, 0, none⟩)) (hq : tmps.getD q undef = .pointer (some ⟨g2, 0, none⟩)) (h1 : w.cell? ⟨g1, 0, none⟩ = some v) (h2 : w.cell? ⟨g2, 0, none⟩ = some u)
    (ht : ∀ w, (isAgg ty).run P w = .ok false w) (hu : ∀ w, (isAgg uy).run P w = .ok false w) :
    (results fn tmps).run P w = .ok (.tuple #[v, u]) w := by
  have hp' : tmps[p]?.getD undef = .pointer (some ⟨g1, 0, none⟩) := by simpa using hp
  have hq' : tmps[q]?.getD undef = .pointer (some ⟨g2, 0, none⟩) := by simpa using hq
  simp [results, h, hp', hq', asAddr, loadVar, Sem.run_bind, ht, hu, Result.andThen, h1, h2]
theorem push6 (h : Array Obj) (a b c d e f : Obj) (j : Nat) : ((((((h.push a).push b).push c).push d).push e).push f)[h.size + j]? = [a, b, c, d, e, f][j]? := by
  have e1 : (((((h.push a).push b).push c).push d).push e).push f = h ++ #[a, b, c, d, e, f] := Array.ext' (by simp)
  rw [e1, Array.getElem?_append_right (by omega)]
  simp
theorem KeepsFrom.of_below {B : Nat} {W W' : World} (h : Below W.heap.size W W') : KeepsFrom B W W' := ⟨h.size, fun k _ _ hk _ => (h.block k (lt_of_block hk)).trans hk⟩

end Go.Proofs.Ytgnmcjfocnnffaa

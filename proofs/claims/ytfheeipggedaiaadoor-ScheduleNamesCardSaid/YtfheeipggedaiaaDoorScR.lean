/- Layer 6: the program's walks: regularDays. -/
import Derived.Test.YtfheeipggedaiaaDoorScQ
namespace Go.Proofs.YtfheeipggedaiaaDoor
open Go Go.RowKit Go.Shelf

attribute [local go_sem] Oper.semAt_some

/-- What regularDays' own blocks hold. -/
structure RgI (w W : World) (row : Array Value) (far : Int) (xs : List Int) : Prop where
  b0 : W.heap[w.heap.size]? = some (.cells row 27 (0, 0))
  b1 : W.heap[w.heap.size + 1]? = some (.cells #[.int .i64 far] 3 (0, 0))
  b2 : ∃ v, W.heap[w.heap.size + 1 + 1]? = some (.cells #[v] 23 (0, 0)) ∧ W.ownsRow (w.heap.size + 8) 3 1 v xs.length (xs.map encS)
  b3 : ∃ u, W.heap[w.heap.size + 1 + 1 + 1]? = some (.cells #[u] 4 (0, 0))
  b4 : W.heap[w.heap.size + 1 + 1 + 1 + 1]? = some (.cells #[.func (.func 62) #[] #[.pointer (some ⟨w.heap.size, 0, none⟩), .pointer (some ⟨w.heap.size + 1, 0, none⟩)]] 56 (0, 0))
  bel : Below w.heap.size w W
  sz : w.heap.size + 8 ≤ W.heap.size
theorem own_lt {w : World} {base n : Nat} {e : TypeId} {size : Nat} {v : Value} {xs : List Value} (h : w.ownsRow base e size v n xs) : ∀ k, v.ownBlock = some k → base ≤ k := fun k hk => (h.lt k hk).1
theorem own_not {w : World} {base n : Nat} {e : TypeId} {size : Nat} {v : Value} {xs : List Value} (h : w.ownsRow base e size v n xs) {b : Nat} (hb : b < base) : v.ownBlock = none ∨ some b ≠ v.ownBlock := by
  refine .inr fun e => ?_
  have := (h.lt b e.symm).1
  omega
theorem own_setR {w : World} {base : Nat} {e : TypeId} {size : Nat} {v : Value} {n : Nat} {xs : List Value} (h : w.ownsRow base e size v n xs) {p : Addr} (hp : p.block < base) (u : Value) : (w.setCell p u).ownsRow base e size v n xs := by
  refine ⟨h.1, ?_⟩
  rcases h.2 with h0 | ⟨g, cap, cur, hv, hg, hh, r⟩
  · exact .inl h0
  · exact .inr ⟨g, cap, cur, hv, hg, (Below.heap_setCell w p u g (by omega)).trans hh, r⟩
theorem RgI.own {w X Y : World} {row : Array Value} {far : Int} {xs : List Int} {rw' : Option Nat} {b : Nat} (h : RgI w X row far xs) (hb : w.heap.size ≤ b) (hg : X.grownBy Y rw') (hr : ∀ r, rw' = some r → b ≤ r ∧ ∃ o : Obj, X.heap[r]? = some o ∧ o.isCells = false) : RgI w Y row far xs := by
  obtain ⟨v, h2, ho⟩ := h.b2
  obtain ⟨u, h3⟩ := h.b3
  refine ⟨block_kept hg hr h.b0 rfl, block_kept hg hr h.b1 rfl, ⟨v, block_kept hg hr h2 rfl, ?_⟩, ⟨u, block_kept hg hr h3 rfl⟩, block_kept hg hr h.b4 rfl, ownFrom_below (β := Unit) (Nat.le_refl _) hb () X Y rw' h.bel hg hr, Nat.le_trans h.sz hg.size⟩
  refine ho.kept hg ?_
  rcases ho.2 with ⟨rfl, _⟩ | ⟨g, cap, cur, rfl, _, hgb, _⟩
  · exact .inl rfl
  · refine .inr fun e' => ?_
    obtain ⟨_, o, ho', hc⟩ := hr g (by simpa [Value.ownBlock] using e'.symm)
    rw [hgb] at ho'; cases ho'; cases hc
theorem RgI.set3 {w W : World} {row : Array Value} {far : Int} {xs : List Int} (h : RgI w W row far xs) (u : Value) : RgI w (W.setCell ⟨w.heap.size + 1 + 1 + 1, 0, none⟩ u) row far xs := by
  obtain ⟨v, h2, ho⟩ := h.b2
  obtain ⟨u', h3⟩ := h.b3
  exact ⟨(Below.heap_setCell W ⟨w.heap.size + 1 + 1 + 1, 0, none⟩ _ _ (by show _ ≠ w.heap.size + 1 + 1 + 1; omega)).trans h.b0, (Below.heap_setCell W ⟨w.heap.size + 1 + 1 + 1, 0, none⟩ _ _ (by show _ ≠ w.heap.size + 1 + 1 + 1; omega)).trans h.b1,
    ⟨v, (Below.heap_setCell W ⟨w.heap.size + 1 + 1 + 1, 0, none⟩ _ _ (by show _ ≠ w.heap.size + 1 + 1 + 1; omega)).trans h2, own_setR ho (by show w.heap.size + 1 + 1 + 1 < _; omega) _⟩, ⟨u, heap_setCell_same W _ 0 _ _ _ h3⟩,
    (Below.heap_setCell W ⟨w.heap.size + 1 + 1 + 1, 0, none⟩ _ _ (by show _ ≠ w.heap.size + 1 + 1 + 1; omega)).trans h.b4, h.bel.setCell (p := ⟨w.heap.size + 1 + 1 + 1, 0, none⟩) (by show w.heap.size ≤ w.heap.size + 1 + 1 + 1; omega) _, by rw [size_set]; exact h.sz⟩
/-- The slice's box is written: the row as it is owned then. -/
theorem RgI.set2 {w W : World} {row : Array Value} {far : Int} {xs ys : List Int} (h : RgI w W row far xs) {v : Value} (ho : W.ownsRow (w.heap.size + 8) 3 1 v ys.length (ys.map encS)) : RgI w (W.setCell ⟨w.heap.size + 1 + 1, 0, none⟩ v) row far ys := by
  obtain ⟨v', h2, -⟩ := h.b2
  obtain ⟨u', h3⟩ := h.b3
  exact ⟨(Below.heap_setCell W ⟨w.heap.size + 1 + 1, 0, none⟩ _ _ (by show _ ≠ w.heap.size + 1 + 1; omega)).trans h.b0, (Below.heap_setCell W ⟨w.heap.size + 1 + 1, 0, none⟩ _ _ (by show _ ≠ w.heap.size + 1 + 1; omega)).trans h.b1,
    ⟨v, heap_setCell_same W _ 0 _ _ _ h2, own_setR ho (by show w.heap.size + 1 + 1 < _; omega) _⟩, ⟨u', (Below.heap_setCell W ⟨w.heap.size + 1 + 1, 0, none⟩ _ _ (by show _ ≠ w.heap.size + 1 + 1; omega)).trans h3⟩,
    (Below.heap_setCell W ⟨w.heap.size + 1 + 1, 0, none⟩ _ _ (by show _ ≠ w.heap.size + 1 + 1; omega)).trans h.b4, h.bel.setCell (p := ⟨w.heap.size + 1 + 1, 0, none⟩) (by show w.heap.size ≤ w.heap.size + 1 + 1; omega) _, by rw [size_set]; exact h.sz⟩
/-- What lies below stays. -/
theorem RgI.grown8 {w W W' : World} {row : Array Value} {far : Int} {xs ys : List Int} (h : RgI w W row far xs) (hb : Below (w.heap.size + 8) W W') {v : Value} (h2 : W'.heap[w.heap.size + 1 + 1]? = some (.cells #[v] 23 (0, 0))) (ho : W'.ownsRow (w.heap.size + 8) 3 1 v ys.length (ys.map encS)) : RgI w W' row far ys := by
  obtain ⟨u, h3⟩ := h.b3
  exact ⟨(hb.block _ (by omega)).trans h.b0, (hb.block _ (by omega)).trans h.b1, ⟨v, h2, ho⟩, ⟨u, (hb.block _ (by omega)).trans h3⟩, (hb.block _ (by omega)).trans h.b4, h.bel.trans (hb.mono (by omega)), Nat.le_trans h.sz hb.size⟩
theorem RgI.put {w W : World} {row : Array Value} {far : Int} {xs : List Int} (h : RgI w W row far xs) (D : Nat) (hD : w.heap.size + 8 ≤ D) {o : Obj} (hK : W.heap[D]? = some o) (h1 : o.isCells = false) (h2 : o.isWalk = false) (o' : Obj) : RgI w (W.putObj D o') row far xs := by
  obtain ⟨v, g2, ho⟩ := h.b2
  obtain ⟨u, g3⟩ := h.b3
  exact ⟨(World.putObj_heap_other (by omega)).trans h.b0, (World.putObj_heap_other (by omega)).trans h.b1, ⟨v, (World.putObj_heap_other (by omega)).trans g2, ownsRow_putObj ho _ hK h1⟩, ⟨u, (World.putObj_heap_other (by omega)).trans g3⟩, (World.putObj_heap_other (by omega)).trans h.b4,
    h.bel.trans (belowK_b (w := w) (Nat.le_refl _) W D o o' (by omega) hK h1 h2), by rw [World.putObj_size]; exact h.sz⟩
theorem RgI.app {w W w1 : World} {row : Array Value} {far : Int} {xs ys : List Int} (h : RgI w W row far xs) (hb : Below (w.heap.size + 8) W w1) {v : Value} (ho : w1.ownsRow (w.heap.size + 8) 3 1 v ys.length (ys.map encS)) : RgI w (w1.setCell ⟨w.heap.size + 1 + 1, 0, none⟩ v) row far ys := by
  obtain ⟨v', h2, -⟩ := h.b2
  obtain ⟨u', h3⟩ := h.b3
  exact ⟨(Below.heap_setCell w1 ⟨w.heap.size + 1 + 1, 0, none⟩ _ _ (by show _ ≠ w.heap.size + 1 + 1; omega)).trans ((hb.block _ (by omega)).trans h.b0), (Below.heap_setCell w1 ⟨w.heap.size + 1 + 1, 0, none⟩ _ _ (by show _ ≠ w.heap.size + 1 + 1; omega)).trans ((hb.block _ (by omega)).trans h.b1),
    ⟨v, heap_setCell_same w1 _ 0 _ _ _ ((hb.block _ (by omega)).trans h2), own_setR ho (by show w.heap.size + 1 + 1 < _; omega) _⟩, ⟨u', (Below.heap_setCell w1 ⟨w.heap.size + 1 + 1, 0, none⟩ _ _ (by show _ ≠ w.heap.size + 1 + 1; omega)).trans ((hb.block _ (by omega)).trans h3)⟩,
    (Below.heap_setCell w1 ⟨w.heap.size + 1 + 1, 0, none⟩ _ _ (by show _ ≠ w.heap.size + 1 + 1; omega)).trans ((hb.block _ (by omega)).trans h.b4), (h.bel.trans (hb.mono (by omega))).setCell (p := ⟨w.heap.size + 1 + 1, 0, none⟩) (by show w.heap.size ≤ w.heap.size + 1 + 1; omega) _, by rw [size_set]; exact Nat.le_trans h.sz hb.size⟩
theorem RgI.drew {w W : World} {row : Array Value} {far : Int} {xs : List Int} (h : RgI w W row far xs) : RgI w W.drew row far xs := by
  obtain ⟨v, h2, ho⟩ := h.b2
  obtain ⟨u, h3⟩ := h.b3
  exact ⟨h.b0, h.b1, ⟨v, h2, ho⟩, ⟨u, h3⟩, h.b4, Below.drew h.bel, h.sz⟩
theorem push8 (h : Array Obj) (a b c d e f g i : Obj) (j : Nat) : ((((((((h.push a).push b).push c).push d).push e).push f).push g).push i)[h.size + j]? = [a, b, c, d, e, f, g, i][j]? := by
  have e1 : (((((((h.push a).push b).push c).push d).push e).push f).push g).push i = h ++ #[a, b, c, d, e, f, g, i] := Array.ext' (by simp)
  rw [e1, Array.getElem?_append_right (by omega)]
  simp
/-- The append of a round: what is owed behind it. -/
theorem appendedS {W w1 : World} {n₀ B : Nat} {t e : TypeId} {v v' : Value} {k m : Nat} {xs ys : List Value} {tmp : Obj} (hB : B < n₀) (hrow : W.ownsRow n₀ e 1 v k xs) (hn₀ : n₀ ≤ W.heap.size) (hown' : w1.ownsRow n₀ e 1 v' m ys) (hgrow : (W.alloc tmp).grownBy w1 v.ownBlock) :
    Below n₀ W w1 ∧ KeepsOthers W (w1.setCell ⟨B, 0, none⟩ v') := by
  refine ⟨((Below.refl n₀ W).alloc hn₀ tmp).grown hgrow (by simp; omega) fun j ej => (hrow.lt j ej).1, ?_⟩
  refine ((KeepsOthers.alloc W tmp).trans (KeepsOthers.of_grownBy hgrow fun j o ej hj => ?_)).trans (KeepsOthers.setCell _ _ _)
  rcases (hrow.alloc tmp).2 with ⟨rfl, _⟩ | ⟨g, cap, cur, rfl, _, hgb, _⟩
  · simp [Value.ownBlock] at ej
  · obtain rfl : g = j := by simpa [Value.ownBlock] using ej
    rw [hgb] at hj; cases hj; rfl
/-- Two results, each in a cell of its own: a slice, a bool. -/
theorem results_cellsS {P : Program} {fn : Func} {p q : Tmp} {ty uy : TypeId} (h : fn.results = #[.cell p ty, .cell q uy]) (tmps : Array Value) (w : World) (g1 g2 : Nat) (v u : Value)
    (hp : tmps.getD p undef = .pointer (some ⟨g1, 0, none⟩)) (hq : tmps.getD q undef = .pointer (some ⟨g2, 0, none⟩)) (h1 : w.cell? ⟨g1, 0, none⟩ = some v) (h2 : w.cell? ⟨g2, 0, none⟩ = some u)
    (ht : ∀ w, (isAgg ty).run P w = .ok false w) (hu : ∀ w, (isAgg uy).run P w = .ok false w) :
    (results fn tmps).run P w = .ok (.tuple #[v, u]) w := results_cells2 h tmps w g1 g2 v u hp hq h1 h2 ht hu

set_option maxRecDepth 100000 in
set_option maxHeartbeats 4000000 in
theorem regularDays_in (st en mo : Int) (bk la : Bool) (sb ro we : Int) (A : Option Addr) (c : Nat) (nh : Nat) (b far σ : Int) (v e : Nat → Int) (R : Nat) (hR : R ≤ 4000) (s0 : -1200 ≤ σ) (s1 : σ ≤ 1200) (w : World)
    (he : ∀ k, k ≤ R → e k = 0) (hat : ∀ k, k ≤ R → atX bk far (v k) = false) (hlast : e (R + 1) = 0 → atX bk far (v (R + 1)) = true) (K : Nat) (hKR : K = R + 1 ∧ e (R + 1) ≠ 0 ∨ R + 1 < K ∧ K ≤ 4001 ∧ (∀ k, k < K → e k = 0) ∧ e K ≠ 0)
    (z : Bool) (hz : (decide (e (R + 1) ≠ 0) || decide (v (R + 1) ≠ far)) = z)
    (HA : ∀ k : Nat, k ≤ 4001 → ∀ W, Below w.heap.size w W → Calls Tryd.prog 25 #[.int .i64 b, .int .i64 (k * σ), .bool la] W fun x w' => x = .returned (.tuple #[.int .i64 (v k), .int .i64 (e k)]) ∧ W = w') :
    CallsIn Fence.wide 6 Tryd.prog 47 #[.agg #[.int .i64 st, .int .i64 en, .int .i64 mo, .bool bk, .bool la, .int .u8 sb, .int .u8 ro, .int .u8 we, .slice A nh c], .int .i64 b, .int .i64 far, .int .i64 σ] w fun x w' => ∃ u, x = .returned (.tuple #[u, .bool z]) ∧ w'.ownsRow (w.heap.size + 8) 3 1 u (R + 1) ((cntL v (R + 1)).map encS) ∧ Below w.heap.size w w' ∧ w.heap.size + 8 ≤ w'.heap.size := by
  obtain ⟨i0, hi0, hz0, hz1, hz2⟩ := info_parts infoS
  have hK : K ≤ 4001 := by omega
  have heK : ∀ k, k < K → e k = 0 := by
    rcases hKR with ⟨rfl, -⟩ | ⟨-, -, h, -⟩
    · exact fun k hk => he k (by omega)
    · exact h
  have heK0 : e K ≠ 0 := by
    rcases hKR with ⟨rfl, h⟩ | ⟨-, -, -, h⟩
    · exact h
    · exact h
  have HKR := Lib.hid hKR
  have HAT := Lib.hid hat
  have HLA := Lib.hid hlast
  have HE := Lib.hid he
  have JA := Lib.hid HA
  have HZ := Lib.hid hz
  clear hKR hat hlast he HA hz
  refine callsIn_of_wp_marks Tryd.func47 rfl trivial ?_ rfl
  simp only [Tryd.ntmps47, List.size_toArray, List.length_cons, List.length_nil, Nat.reduceAdd, Nat.reduceSub, Array.replicate_succ, Array.replicate_zero, List.push_toArray, List.append_toArray, List.nil_append, List.cons_append]
  gi_wp2_with (refine ⟨trivial, ?_⟩; gi_at_call 63; refine (daysFromS_in _ _ _ _ _).mono ?_; rintro x w' ⟨rfl, rfl⟩)
  obtain ⟨row, hrow⟩ : ∃ row, #[Value.int .i64 st, .int .i64 en, .int .i64 mo, .bool bk, .bool la, .int .u8 sb, .int .u8 ro, .int .u8 we, .slice A nh c] = row := ⟨_, rfl⟩
  have hr3 : row[3]? = some (.bool bk) := by rw [← hrow]; rfl
  rw [hrow]
  obtain ⟨WL, hWL⟩ : ∃ WL, (((((((w.alloc (.cells row 27)).alloc (.cells #[.int .i64 far] 3)).alloc (.cells #[.slice none 0 0] 23)).alloc (.cells #[.bool false] 4)).alloc (.cells #[.func (.func 62) #[] #[.pointer (some ⟨w.heap.size, 0, none⟩), .pointer (some ⟨w.heap.size + 1, 0, none⟩)]] 56)).alloc (.cells #[.int .i64 b] 3)).alloc (.cells #[.int .i64 σ] 3)).alloc (.cells #[.bool la] 4) = WL := ⟨_, rfl⟩
  have hszL : WL.heap.size = w.heap.size + 8 := by rw [← hWL]; simp
  have hat : ∀ j, j < 8 → WL.heap[w.heap.size + j]? = ([Obj.cells row 27 (0, 0), .cells #[.int .i64 far] 3 (0, 0), .cells #[.slice none 0 0] 23 (0, 0), .cells #[.bool false] 4 (0, 0), .cells #[.func (.func 62) #[] #[.pointer (some ⟨w.heap.size, 0, none⟩), .pointer (some ⟨w.heap.size + 1, 0, none⟩)]] 56 (0, 0), .cells #[.int .i64 b] 3 (0, 0), .cells #[.int .i64 σ] 3 (0, 0), .cells #[.bool la] 4 (0, 0)])[j]? := by
    intro j hj
    rw [← hWL]
    exact push8 w.heap _ _ _ _ _ _ _ _ j
  have hbL : Below w.heap.size w WL := by
    rw [← hWL]
    exact ((((((((Below.refl _ w).alloc (Nat.le_refl _) _).alloc (by simp) _).alloc (by simp; omega) _).alloc (by simp; omega) _).alloc (by simp; omega) _).alloc (by simp; omega) _).alloc (by simp; omega) _).alloc (by simp; omega) _
  have hI0 : RgI w WL row far [] := ⟨hat 0 (by omega), hat 1 (by omega), ⟨_, hat 2 (by omega), World.ownsRow_nil _ _ _ _⟩, ⟨_, hat 3 (by omega)⟩, hat 4 (by omega), hbL, by omega⟩
  have hf0 := hat 5 (by omega)
  have hs0 := hat 6 (by omega)
  have hl0 := hat 7 (by omega)
  rw [hWL]
  clear hWL hat hrow
  refine wpIn_rangeFunc_cell (F := Fence.wide) (n := 6) rfl (by omega) (gf := 72) (lb := #[.pointer (some ⟨w.heap.size + 5, 0, none⟩), .pointer (some ⟨w.heap.size + 6, 0, none⟩), .pointer (some ⟨w.heap.size + 7, 0, none⟩)]) rfl trivial (enters_of Tryd.func72 (by kernel_rfl) rfl)
    (enc := fun x : Int => Value.int .i64 x) (Bc := w.heap.size + 1 + 1 + 1) (Kp := KpS w (w.heap.size + 5) (w.heap.size + 6) (w.heap.size + 7)) (ds := cntL v K) (w0 := WL)
    (fun l J Jx W hW _ hY h0 => daysFrom1S_in (6 - 1) (by omega) l (w.heap.size + 5) (w.heap.size + 6) (w.heap.size + 7) b σ la v e K hK s0 s1 heK heK0 w (fun k hk W hW => JA.out k (by omega) W hW) J Jx hY W (hbL.trans (hW.mono (by omega)))
      ((hW.block _ (by omega)).trans hf0) ((hW.block _ (by omega)).trans hs0) ((hW.block _ (by omega)).trans hl0) h0) (by omega)
    (fun h k => ⟨h.1.trans k.1, k.2.1.trans h.2.1, k.2.2.1.trans h.2.2.1, k.2.2.2.trans h.2.2.2⟩)
    (fun W l o o' hl hk => ⟨(Below.refl _ W).grown (grownBy_putObj' W l o') (by have := lt_of_block hk; omega) (fun j hj => by cases hj; omega), World.putObj_heap_other (by omega), World.putObj_heap_other (by omega), World.putObj_heap_other (by omega)⟩) (Below.refl _ _)
    (fun pre W => pre.length ≤ R + 1 ∧ RgI w W row far pre)
    (fun c pre W => c = .ret ∧ e (R + 1) = 0 ∧ RgI w W row far (cntL v (R + 1)) ∧ W.heap[w.heap.size + 1 + 1 + 1]? = some (.cells #[.bool (v (R + 1) != far)] 4 (0, 0)))
    (fun t X Y row h hg hr => ⟨h.1, h.2.own (by omega) hg hr⟩)
    (fun c t X Y row h hg hr => ⟨h.1, h.2.1, h.2.2.1.own (by omega) hg hr, block_kept hg hr h.2.2.2 rfl⟩)
    (fun t X u h => ⟨h.1, h.2.set3 u⟩)
    ⟨by simp, hI0⟩
    (fun x => { tmps := #[.agg row, .int .i64 b, .int .i64 far, .int .i64 σ, .pointer (some ⟨w.heap.size, 0, none⟩), undef, .pointer (some ⟨w.heap.size + 1, 0, none⟩), undef, .pointer (some ⟨w.heap.size + 1 + 1, 0, none⟩), .pointer (some ⟨w.heap.size + 1 + 1 + 1, 0, none⟩), .pointer (some ⟨w.heap.size + 1 + 1 + 1 + 1, 0, none⟩), .int .i64 x, .func (.func 62) #[] #[.pointer (some ⟨w.heap.size, 0, none⟩), .pointer (some ⟨w.heap.size + 1, 0, none⟩)], .int .i64 b, .int .i64 σ, .pointer (some ⟨w.heap.size, 4, none⟩), .bool la, .func (.func 72) #[] #[.pointer (some ⟨w.heap.size + 5, 0, none⟩), .pointer (some ⟨w.heap.size + 6, 0, none⟩), .pointer (some ⟨w.heap.size + 7, 0, none⟩)], .int .i64 x, undef, undef, undef, undef, undef, undef, undef, undef, undef, undef, undef, undef], defers := [] }) ?assign ?body ?done ?stop
  case assign =>
    intro l x W K hK
    gi_wp2
    exact hK
  case body =>
    rintro l pre x W ⟨hlen, hI⟩ hpre
    obtain ⟨hp, hx, hlK⟩ := pre_cntL hpre
    have h3 : W.cell? ⟨w.heap.size, 3, none⟩ = some (.bool bk) := by unfold World.cell?; rw [hI.b0]; show row[0 + 3]? = _; exact hr3
    have h1 : W.cell? ⟨w.heap.size + 1, 0, none⟩ = some (.int .i64 far) := by unfold World.cell?; rw [hI.b1]; rfl
    have h4 : W.cell? ⟨w.heap.size + 1 + 1 + 1 + 1, 0, none⟩ = some (.func (.func 62) #[] #[.pointer (some ⟨w.heap.size, 0, none⟩), .pointer (some ⟨w.heap.size + 1, 0, none⟩)]) := by unfold World.cell?; rw [hI.b4]; rfl
    have HC := Lib.hid (atFar_any w.heap.size (w.heap.size + 1) bk far x W h3 h1)
    obtain ⟨v0, h2, hrow⟩ := hI.b2
    have c2 : W.cell? ⟨w.heap.size + 1 + 1, 0, none⟩ = some v0 := by unfold World.cell?; rw [h2]; rfl
    have f2 : W.frozen? ⟨w.heap.size + 1 + 1, 0, none⟩ = false := by unfold World.frozen?; rw [h2]; rfl
    have HI := Lib.hid hI
    have hsz := hI.sz
    by_cases hk : pre.length ≤ R
    · have hfl : atX bk far x = false := by rw [hx]; exact HAT.out _ hk
      rw [hfl] at HC
      have HX := Lib.hid hx
      have H2 := Lib.hid h2
      have HROW := Lib.hid hrow
      have hl1 : (pre ++ [x]).length = pre.length + 1 := by simp
      clear hI HAT HLA JA hfl hx hpre hp hlK h2 hrow hf0 hs0 hl0 hI0 heK heK0
      gi_wp2
      refine ⟨trivial, (callsIn_round l (callsIn_wide.2 HC.out)).mono ?_⟩
      rintro e w' ⟨rfl, rfl⟩
      gi_wp2_with (gi_at_builtin; refine wpListIn_append_own _ rfl _ _ 23 rfl (w.heap.size + 8) 3 i0 (.int .i64 0) 1 8 Tryd.underlying23 hi0 hz0 hz1 hz2 rfl (by decide) _ _ _ rfl (HROW.out.alloc _) ⟨W.heap.size, 0, none⟩ 1 1 [.int .i64 x] rfl rfl (cell_one_new _ _ _) (by simp [Value.oneCell']) (by unfold maxLen; omega) (by omega) (by simp; omega) ?_; intro v' w1 hown' hgrow _; obtain ⟨g', cap', rfl⟩ := ownsRow_succ hown'; have HAP := Lib.hid (appendedS (B := w.heap.size + 1 + 1) (t := 23) (by omega) HROW.out (by omega) hown' hgrow); have c2' : w1.cell? ⟨w.heap.size + 1 + 1, 0, none⟩ = some v0 := (by unfold World.cell?; rw [(HAP.out.1.block _ (by omega)).trans H2.out]; rfl); have f2' : w1.frozen? ⟨w.heap.size + 1 + 1, 0, none⟩ = false := (by unfold World.frozen?; rw [(HAP.out.1.block _ (by omega)).trans H2.out]; rfl); have HO := Lib.hid hown'; clear hown' hgrow)
      refine ⟨HAP.out.2.from _, ⟨(HAP.out.1.mono (by omega)).setCell (p := ⟨w.heap.size + 1 + 1, 0, none⟩) (by show w.heap.size ≤ w.heap.size + 1 + 1; omega) _, ?_, ?_, ?_⟩, by rw [hl1]; omega, HI.out.app HAP.out.1 (by rw [hl1, List.map_append]; exact HO.out)⟩
      all_goals exact (Below.heap_setCell _ ⟨w.heap.size + 1 + 1, 0, none⟩ _ _ (by show _ ≠ w.heap.size + 1 + 1; omega)).trans (HAP.out.1.block _ (by omega))
    · have hk1 : pre.length = R + 1 := by omega
      have he0 : e (R + 1) = 0 := heK _ (by omega)
      have hfl : atX bk far x = true := by rw [hx, hk1]; exact HLA.out he0
      rw [hfl] at HC
      rw [hk1] at hx hp
      have HX := Lib.hid hx
      have HPR := Lib.hid hp
      have HE0 := Lib.hid he0
      have H2 := Lib.hid h2
      have HROW := Lib.hid hrow
      obtain ⟨A0, c0, rfl, -, -, -, -, -⟩ := of_ownS hrow
      obtain ⟨u3, hb3⟩ := hI.b3
      have c3 : W.cell? ⟨w.heap.size + 1 + 1 + 1, 0, none⟩ = some u3 := by unfold World.cell?; rw [hb3]; rfl
      have f3 : W.frozen? ⟨w.heap.size + 1 + 1 + 1, 0, none⟩ = false := by unfold World.frozen?; rw [hb3]; rfl
      clear hI HAT HLA JA hfl hx hpre hp hlK h2 hrow hf0 hs0 hl0 hI0 heK heK0 he0
      have HROW2 : Hid (W.ownsRow (w.heap.size + 8) 3 1 (.slice A0 (R + 1) c0) (cntL v (R + 1)).length ((cntL v (R + 1)).map encS)) := by
        show W.ownsRow _ _ _ _ _ _
        have := HROW.out
        rw [← HPR.out, hk1]
        rw [hk1] at this
        exact this
      have HG : Hid (∀ X, (X = ((W.setCell ⟨w.heap.size + 1 + 1, 0, none⟩ (.slice A0 (R + 1) c0)).setCell ⟨w.heap.size + 1 + 1 + 1, 0, none⟩ (.bool (x != far))).drew ∨ X = ((W.setCell ⟨w.heap.size + 1 + 1 + 1, 0, none⟩ (.bool (x != far))).setCell ⟨w.heap.size + 1 + 1, 0, none⟩ (.slice A0 (R + 1) c0)).drew) →
          KeepsFrom WL.heap.size W X ∧ (e (R + 1) = 0 ∧ RgI w X row far (cntL v (R + 1)) ∧ X.heap[w.heap.size + 1 + 1 + 1]? = some (.cells #[.bool (v (R + 1) != far)] 4 (0, 0)))) := by
        show ∀ X, _
        intro X hX
        rw [← HX.out]
        have kf : ∀ Y : World, KeepsFrom WL.heap.size W Y → KeepsFrom WL.heap.size W Y.drew := fun Y h => ⟨h.size, h.same⟩
        rcases hX with rfl | rfl
        · exact ⟨kf _ (((KeepsOthers.setCell _ _ _).trans (KeepsOthers.setCell _ _ _)).from _), HE0.out, ((HI.out.app (w1 := W) (v := .slice A0 (R + 1) c0) (ys := cntL v (R + 1)) (Below.refl _ _) HROW2.out).set3 _).drew, heap_setCell_same _ _ 0 _ _ _ ((Below.heap_setCell W ⟨w.heap.size + 1 + 1, 0, none⟩ _ _ (by show _ ≠ w.heap.size + 1 + 1; omega)).trans hb3)⟩
        · exact ⟨kf _ (((KeepsOthers.setCell _ _ _).trans (KeepsOthers.setCell _ _ _)).from _), HE0.out, ((HI.out.set3 _).app (w1 := W.setCell ⟨w.heap.size + 1 + 1 + 1, 0, none⟩ _) (v := .slice A0 (R + 1) c0) (ys := cntL v (R + 1)) (Below.refl _ _) (own_setR HROW2.out (by show w.heap.size + 1 + 1 + 1 < _; omega) _)).drew, (Below.heap_setCell _ ⟨w.heap.size + 1 + 1, 0, none⟩ _ _ (by show _ ≠ w.heap.size + 1 + 1; omega)).trans (heap_setCell_same W _ 0 _ _ _ hb3)⟩
      clear hb3
      gi_wp2
      refine ⟨trivial, (callsIn_round l (callsIn_wide.2 HC.out)).mono ?_⟩
      rintro e w' ⟨rfl, rfl⟩
      gi_wp2
      gi_region
      all_goals gi_wp2
      all_goals exact ⟨(HG.out _ (by first | exact .inl rfl | exact .inr rfl)).1, rfl, (HG.out _ (by first | exact .inl rfl | exact .inr rfl)).2⟩
  case done =>
    rintro D W hD ⟨hlen, hI⟩ hDD
    have hKn : K = R + 1 := by rw [cntL_len] at hlen; rcases HKR.out with ⟨h, -⟩ | ⟨h, -⟩ <;> omega
    subst hKn
    obtain ⟨v0, h2, hrow⟩ := hI.b2
    obtain ⟨A0, c0, rfl, -, -, -, -, -⟩ := of_ownS hrow
    obtain ⟨u3, hb3⟩ := hI.b3
    rw [cntL_len] at h2 hrow
    have c2 : W.cell? ⟨w.heap.size + 1 + 1, 0, none⟩ = some (.slice A0 (R + 1) c0) := by unfold World.cell?; rw [h2]; rfl
    have f2 : W.frozen? ⟨w.heap.size + 1 + 1, 0, none⟩ = false := by unfold World.frozen?; rw [h2]; rfl
    have c3 : W.cell? ⟨w.heap.size + 1 + 1 + 1, 0, none⟩ = some u3 := by unfold World.cell?; rw [hb3]; rfl
    have f3 : W.frozen? ⟨w.heap.size + 1 + 1 + 1, 0, none⟩ = false := by unfold World.frozen?; rw [hb3]; rfl
    have hne : e (R + 1) ≠ 0 := heK0
    have HNE := Lib.hid hne
    have HI := Lib.hid hI
    have HK := Lib.hid hDD
    have HROW : Hid (W.ownsRow (w.heap.size + 8) 3 1 (.slice A0 (R + 1) c0) (cntL v (R + 1)).length ((cntL v (R + 1)).map encS)) := by
      show W.ownsRow _ _ _ _ _ _
      rw [cntL_len]; exact hrow
    have HB3 := Lib.hid hb3
    clear hI hDD hrow h2 hb3 hne heK heK0 hf0 hs0 hl0 hI0 HAT HLA JA
    gi_wp2
    obtain ⟨W2, hW2⟩ : ∃ W2, (W.setCell ⟨w.heap.size + 1 + 1, 0, none⟩ (.slice A0 (R + 1) c0)).setCell ⟨w.heap.size + 1 + 1 + 1, 0, none⟩ (.bool true) = W2 := ⟨_, rfl⟩
    have HI2 : RgI w W2 row far (cntL v (R + 1)) := by rw [← hW2]; exact (HI.out.app (w1 := W) (v := .slice A0 (R + 1) c0) (ys := cntL v (R + 1)) (Below.refl _ _) HROW.out).set3 _
    have B2 : W2.heap[w.heap.size + 1 + 1]? = some (.cells #[.slice A0 (R + 1) c0] 23 (0, 0)) := by
      obtain ⟨v9, h9, -⟩ := HI.out.b2
      rw [← hW2]
      exact (Below.heap_setCell _ ⟨w.heap.size + 1 + 1 + 1, 0, none⟩ _ _ (by show _ ≠ w.heap.size + 1 + 1 + 1; omega)).trans (heap_setCell_same W _ 0 _ _ _ h9)
    have B3 : W2.heap[w.heap.size + 1 + 1 + 1]? = some (.cells #[.bool true] 4 (0, 0)) := by
      rw [← hW2]
      exact heap_setCell_same _ _ 0 _ _ _ ((Below.heap_setCell W ⟨w.heap.size + 1 + 1, 0, none⟩ _ _ (by show _ ≠ w.heap.size + 1 + 1; omega)).trans HB3.out)
    have OW : W2.ownsRow (w.heap.size + 8) 3 1 (.slice A0 (R + 1) c0) (R + 1) ((cntL v (R + 1)).map encS) := by
      have := own_setR (own_setR HROW.out (p := ⟨w.heap.size + 1 + 1, 0, none⟩) (by show w.heap.size + 1 + 1 < _; omega) (.slice A0 (R + 1) c0)) (p := ⟨w.heap.size + 1 + 1 + 1, 0, none⟩) (by show w.heap.size + 1 + 1 + 1 < _; omega) (.bool true)
      rw [hW2, cntL_len] at this
      exact this
    have hDz : w.heap.size + 8 ≤ D := by omega
    have K2 : W2.heap[D]? = some (.deferred (some [])) := by
      rw [← hW2]
      exact (Below.heap_setCell _ ⟨w.heap.size + 1 + 1 + 1, 0, none⟩ _ D (by show D ≠ w.heap.size + 1 + 1 + 1; omega)).trans ((Below.heap_setCell _ ⟨w.heap.size + 1 + 1, 0, none⟩ _ D (by show D ≠ w.heap.size + 1 + 1; omega)).trans HK.out)
    rw [hW2]
    have HI3 := HI2.put D (by omega) K2 rfl rfl (.deferred none)
    refine ⟨by simp, .inl ⟨_, _, rfl, run_takeDeferred K2, ?_⟩⟩
    exact ⟨_, results_cells2 rfl _ _ (w.heap.size + 1 + 1) (w.heap.size + 1 + 1 + 1) (.slice A0 (R + 1) c0) (.bool true) rfl rfl (by unfold World.cell?; rw [(World.putObj_heap_other (by omega)).trans B2]; rfl) (by unfold World.cell?; rw [(World.putObj_heap_other (by omega)).trans B3]; rfl) Tryd.isAgg23 Tryd.isAgg4, _, by rw [← HZ.out, decide_eq_true HNE.out]; rfl, ownsRow_putObj OW _ K2 rfl, HI3.bel, HI3.sz⟩
  case stop =>
    rintro D c pre W hD _ ⟨rfl, he0, hI, h3⟩ hK
    obtain ⟨v0, h2, hrow⟩ := hI.b2
    have HI3 := hI.put D (by omega) hK rfl rfl (.deferred none)
    have hz : z = (v (R + 1) != far) := by
      rw [← HZ.out]
      rw [decide_eq_false (fun h => h he0), Bool.false_or]
      by_cases h : v (R + 1) = far <;> simp [h]
    have HZ2 := Lib.hid hz
    clear JA HAT HLA hI0 hf0 hs0 hl0 hz
    gi_wp2
    refine ⟨by simp, .inl ⟨_, _, rfl, run_takeDeferred hK, ?_⟩⟩
    exact ⟨_, results_cells2 rfl _ _ (w.heap.size + 1 + 1) (w.heap.size + 1 + 1 + 1) v0 (.bool (v (R + 1) != far)) rfl rfl (by unfold World.cell?; rw [(World.putObj_heap_other (by omega)).trans h2]; rfl) (by unfold World.cell?; rw [(World.putObj_heap_other (by omega)).trans h3]; rfl) Tryd.isAgg23 Tryd.isAgg4, v0, by rw [HZ2.out], by rw [cntL_len] at hrow; exact ownsRow_putObj hrow _ hK rfl, HI3.bel, HI3.sz⟩
end Go.Proofs.YtfheeipggedaiaaDoor

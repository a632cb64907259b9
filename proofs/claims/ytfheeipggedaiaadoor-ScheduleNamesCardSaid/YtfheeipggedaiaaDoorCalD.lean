/- Layer 4: the program's walks: the n-th business day. -/
import Derived.Test.YtfheeipggedaiaaDoorCalC
namespace Go.Proofs.YtfheeipggedaiaaDoor
open Go Go.RowKit Go.Shelf

attribute [local go_sem] Oper.semAt_some

/-- What nth's own blocks hold. -/
structure NthI (w W : World) (B : Nat) (m v e : Int) : Prop where
  b0 : W.heap[w.heap.size]? = some (.cells #[.func (.func 58) #[] #[.pointer (some ⟨B, 0, none⟩)]] 56 (0, 0))
  b1 : W.heap[w.heap.size + 1]? = some (.cells #[.int .i64 m] 3 (0, 0))
  b2 : W.heap[w.heap.size + 1 + 1]? = some (.cells #[.int .i64 v] 3 (0, 0))
  b3 : W.heap[w.heap.size + 1 + 1 + 1]? = some (.cells #[.int .i64 e] 28 (0, 0))
  bel : Below w.heap.size w W
  sz : w.heap.size + 6 ≤ W.heap.size
theorem size_set (W : World) (a : Addr) (u : Value) : (W.setCell a u).heap.size = W.heap.size := by simp [World.setCell]
theorem block_kept {X Y : World} {row : Option Nat} {b r : Nat} {o : Obj} (hg : X.grownBy Y row) (hr : ∀ r, row = some r → b ≤ r ∧ ∃ o : Obj, X.heap[r]? = some o ∧ o.isCells = false) (h : X.heap[r]? = some o) (ho : o.isCells = true) : Y.heap[r]? = some o := by
  refine (hg.block r (lt_of_block h) (fun e => ?_)).trans h
  obtain ⟨_, o', ho', hc⟩ := hr r e.symm
  rw [h] at ho'
  injection ho' with ho'
  rw [← ho', ho] at hc
  cases hc
theorem NthI.own {w X Y : World} {B : Nat} {m v e : Int} {row : Option Nat} {b : Nat} (h : NthI w X B m v e) (hb : w.heap.size ≤ b) (hg : X.grownBy Y row) (hr : ∀ r, row = some r → b ≤ r ∧ ∃ o : Obj, X.heap[r]? = some o ∧ o.isCells = false) : NthI w Y B m v e :=
  ⟨block_kept hg hr h.b0 rfl, block_kept hg hr h.b1 rfl, block_kept hg hr h.b2 rfl, block_kept hg hr h.b3 rfl, ownFrom_below (β := Unit) (Nat.le_refl _) hb () X Y row h.bel hg hr, Nat.le_trans h.sz hg.size⟩
theorem NthI.set {w W : World} {B : Nat} {m v e : Int} (h : NthI w W B m v e) (a : Nat) (ha : w.heap.size + 4 ≤ a) (u : Value) : NthI w (W.setCell ⟨a, 0, none⟩ u) B m v e :=
  ⟨(Below.heap_setCell W ⟨a, 0, none⟩ u _ (by show _ ≠ a; omega)).trans h.b0, (Below.heap_setCell W ⟨a, 0, none⟩ u _ (by show _ ≠ a; omega)).trans h.b1, (Below.heap_setCell W ⟨a, 0, none⟩ u _ (by show _ ≠ a; omega)).trans h.b2,
    (Below.heap_setCell W ⟨a, 0, none⟩ u _ (by show _ ≠ a; omega)).trans h.b3, h.bel.setCell (p := ⟨a, 0, none⟩) (by show w.heap.size ≤ a; omega) u, by rw [size_set]; exact h.sz⟩
theorem NthI.below {w W W' : World} {B : Nat} {m v e : Int} (h : NthI w W B m v e) (hb : Below W.heap.size W W') : NthI w W' B m v e :=
  ⟨(hb.block _ (lt_of_block h.b0)).trans h.b0, (hb.block _ (lt_of_block h.b1)).trans h.b1, (hb.block _ (lt_of_block h.b2)).trans h.b2, (hb.block _ (lt_of_block h.b3)).trans h.b3, h.bel.trans (hb.mono h.bel.size), Nat.le_trans h.sz hb.size⟩
theorem NthI.set1 {w W : World} {B : Nat} {m v e : Int} (h : NthI w W B m v e) (u : Int) : NthI w (W.setCell ⟨w.heap.size + 1, 0, none⟩ (.int .i64 u)) B u v e :=
  ⟨(Below.heap_setCell W ⟨w.heap.size + 1, 0, none⟩ _ _ (by show _ ≠ w.heap.size + 1; omega)).trans h.b0, heap_setCell_same W _ 0 _ _ _ h.b1, (Below.heap_setCell W ⟨w.heap.size + 1, 0, none⟩ _ _ (by show _ ≠ w.heap.size + 1; omega)).trans h.b2,
    (Below.heap_setCell W ⟨w.heap.size + 1, 0, none⟩ _ _ (by show _ ≠ w.heap.size + 1; omega)).trans h.b3, h.bel.setCell (p := ⟨w.heap.size + 1, 0, none⟩) (by show w.heap.size ≤ w.heap.size + 1; omega) _, by rw [size_set]; exact h.sz⟩
theorem NthI.set2 {w W : World} {B : Nat} {m v e : Int} (h : NthI w W B m v e) (u : Int) : NthI w (W.setCell ⟨w.heap.size + 1 + 1, 0, none⟩ (.int .i64 u)) B m u e :=
  ⟨(Below.heap_setCell W ⟨w.heap.size + 1 + 1, 0, none⟩ _ _ (by show _ ≠ w.heap.size + 1 + 1; omega)).trans h.b0, (Below.heap_setCell W ⟨w.heap.size + 1 + 1, 0, none⟩ _ _ (by show _ ≠ w.heap.size + 1 + 1; omega)).trans h.b1, heap_setCell_same W _ 0 _ _ _ h.b2,
    (Below.heap_setCell W ⟨w.heap.size + 1 + 1, 0, none⟩ _ _ (by show _ ≠ w.heap.size + 1 + 1; omega)).trans h.b3, h.bel.setCell (p := ⟨w.heap.size + 1 + 1, 0, none⟩) (by show w.heap.size ≤ w.heap.size + 1 + 1; omega) _, by rw [size_set]; exact h.sz⟩
theorem NthI.set3 {w W : World} {B : Nat} {m v e : Int} (h : NthI w W B m v e) (u : Int) : NthI w (W.setCell ⟨w.heap.size + 1 + 1 + 1, 0, none⟩ (.int .i64 u)) B m v u :=
  ⟨(Below.heap_setCell W ⟨w.heap.size + 1 + 1 + 1, 0, none⟩ _ _ (by show _ ≠ w.heap.size + 1 + 1 + 1; omega)).trans h.b0, (Below.heap_setCell W ⟨w.heap.size + 1 + 1 + 1, 0, none⟩ _ _ (by show _ ≠ w.heap.size + 1 + 1 + 1; omega)).trans h.b1, (Below.heap_setCell W ⟨w.heap.size + 1 + 1 + 1, 0, none⟩ _ _ (by show _ ≠ w.heap.size + 1 + 1 + 1; omega)).trans h.b2,
    heap_setCell_same W _ 0 _ _ _ h.b3, h.bel.setCell (p := ⟨w.heap.size + 1 + 1 + 1, 0, none⟩) (by show w.heap.size ≤ w.heap.size + 1 + 1 + 1; omega) _, by rw [size_set]; exact h.sz⟩
theorem NthI.put {w W : World} {B : Nat} {m v e : Int} (h : NthI w W B m v e) (D : Nat) (hD : w.heap.size + 4 ≤ D) {o : Obj} (hK : W.heap[D]? = some o) (h1 : o.isCells = false) (h2 : o.isWalk = false) (o' : Obj) : NthI w (W.putObj D o') B m v e :=
  ⟨(World.putObj_heap_other (by omega)).trans h.b0, (World.putObj_heap_other (by omega)).trans h.b1, (World.putObj_heap_other (by omega)).trans h.b2, (World.putObj_heap_other (by omega)).trans h.b3,
    h.bel.trans (belowK_b (w := w) (Nat.le_refl _) W D o o' (by omega) hK h1 h2), by rw [World.putObj_size]; exact h.sz⟩
theorem callsIn_round {F : Fence} {n : Nat} {P : Program} {f : FuncId} {args : Array Value} {w : World} {R : Ending → World → Prop} (l : Nat) (h : CallsIn F n P f args w R) : CallsIn (F.inRound l) n P f args w R := h
/-- Two results, each in a cell of its own. -/
theorem results_cells2 {P : Program} {fn : Func} {p q : Tmp} {ty uy : TypeId} (h : fn.results = #[.cell p ty, .cell q uy]) (tmps : Array Value) (w : World) (g1 g2 : Nat) (v u : Value)
    (hp : tmps.getD p undef = .pointer (some ⟨g1, 0, none⟩)) (hq : tmps.getD q undef = .pointer (some ⟨g2, 0, none⟩)) (h1 : w.cell? ⟨g1, 0, none⟩ = some v) (h2 : w.cell? ⟨g2, 0, none⟩ = some u)
    (ht : ∀ w, (isAgg ty).run P w = .ok false w) (hu : ∀ w, (isAgg uy).run P w = .ok false w) :
    (results fn tmps).run P w = .ok (.tuple #[v, u]) w := by
  have hp' : tmps[p]?.getD undef = .pointer (some ⟨g1, 0, none⟩) := by simpa using hp
  have hq' : tmps[q]?.getD undef = .pointer (some ⟨g2, 0, none⟩) := by simpa using hq
  simp [results, h, hp', hq', asAddr, loadVar, Sem.run_bind, ht, hu, Result.andThen, h1, h2]
theorem push6 (h : Array Obj) (a b c d e f : Obj) (j : Nat) : ((((((h.push a).push b).push c).push d).push e).push f)[h.size + j]? = [a, b, c, d, e, f][j]? := by
  have e1 : (((((h.push a).push b).push c).push d).push e).push f = h ++ #[a, b, c, d, e, f] := Array.ext' (by simp)
  rw [e1, Array.getElem?_append_right (by omega)]
  simp
theorem KeepsFrom.of_below {B : Nat} {W W' : World} (h : Below W.heap.size W W') : KeepsFrom B W W' := ⟨h.size, fun k _ _ hk _ => (h.block k (lt_of_block hk)).trans hk⟩

set_option maxRecDepth 100000 in
set_option maxHeartbeats 4000000 in
theorem nth_in (B : Nat) (p : Int → Bool) (s d n : Int) (k : Nat) (R : Option Int) (w : World) (hB : BizAt w B p) (ha : At s k d) (n0 : 1 ≤ n) (n1 : n ≤ 100000) (hR : nthL p (dys s k d) n = R) (hds : ∀ x ∈ dys s k d, 0 ≤ x ∧ x ≤ 99999) :
    CallsIn Fence.wide 6 Tryd.prog 56 #[.func (.func 58) #[] #[.pointer (some ⟨B, 0, none⟩)], .int .i64 d, .int .i64 s, .int .i64 n] w fun e w' => e = .returned (.tuple #[.int .i64 (nV R), .int .i64 (nE R)]) ∧ Below w.heap.size w w' := by
  have HB := Lib.hid hB
  have HR := Lib.hid hR
  have HD := Lib.hid hds
  have HA := Lib.hid ha
  have hBsz := hB.1
  clear hB hR hds ha
  refine callsIn_of_wp_marks Tryd.func56 rfl trivial ?_ rfl
  simp only [Tryd.ntmps56, List.size_toArray, List.length_cons, List.length_nil, Nat.reduceAdd, Nat.reduceSub, Array.replicate_succ, Array.replicate_zero, List.push_toArray, List.append_toArray, List.nil_append, List.cons_append]
  gi_wp2_with (refine ⟨trivial, ?_⟩; gi_at_call 69; refine (daysFrom_in _ _ _ _).mono ?_; rintro e w' ⟨rfl, rfl⟩)
  obtain ⟨WL, hWL⟩ : ∃ WL, (((((w.alloc (.cells #[.func (.func 58) #[] #[.pointer (some ⟨B, 0, none⟩)]] 56)).alloc (.cells #[.int .i64 n] 3)).alloc (.cells #[.int .i64 0] 3)).alloc (.cells #[.int .i64 0] 28)).alloc (.cells #[.int .i64 d] 3)).alloc (.cells #[.int .i64 s] 3) = WL := ⟨_, rfl⟩
  have hszL : WL.heap.size = w.heap.size + 6 := by rw [← hWL]; simp
  have hat : ∀ j, j < 6 → WL.heap[w.heap.size + j]? = ([Obj.cells #[.func (.func 58) #[] #[.pointer (some ⟨B, 0, none⟩)]] 56 (0, 0), .cells #[.int .i64 n] 3 (0, 0), .cells #[.int .i64 0] 3 (0, 0), .cells #[.int .i64 0] 28 (0, 0), .cells #[.int .i64 d] 3 (0, 0), .cells #[.int .i64 s] 3 (0, 0)])[j]? := by
    intro j hj
    rw [← hWL]
    exact push6 w.heap _ _ _ _ _ _ j
  have hI0 : NthI w WL B n 0 0 := ⟨hat 0 (by omega), hat 1 (by omega), hat 2 (by omega), hat 3 (by omega), by
    rw [← hWL]
    exact ((((((Below.refl _ w).alloc (Nat.le_refl _) _).alloc (by simp) _).alloc (by simp; omega) _).alloc (by simp; omega) _).alloc (by simp; omega) _).alloc (by simp; omega) _, by omega⟩
  have hd0 := hat 4 (by omega)
  have hs0 := hat 5 (by omega)
  rw [hWL]
  clear hWL hat
  refine wpIn_rangeFunc_cell (F := Fence.wide) (n := 6) rfl (by omega) (gf := 75) (lb := #[.pointer (some ⟨w.heap.size + 4, 0, none⟩), .pointer (some ⟨w.heap.size + 5, 0, none⟩)]) rfl trivial (enters_of Tryd.func75 (by kernel_rfl) rfl)
    (daysFrom_seq (6 - 1) (by omega) (w.heap.size + 4) (w.heap.size + 5) s k d HA.out (by omega) WL hd0 hs0) (by omega) (fun h k => ⟨k.1.trans h.1, k.2.trans h.2⟩)
    (fun W l o o' hl _ => ⟨World.putObj_heap_other (by omega), World.putObj_heap_other (by omega)⟩) (Below.refl _ _)
    (fun pre W => ∃ m, 1 ≤ m ∧ m ≤ n ∧ (∀ rest, dys s k d = pre ++ rest → nthL p rest m = R) ∧ NthI w W B m 0 0)
    (fun c pre W => c = .ret ∧ ∃ m r, R = some r ∧ NthI w W B m r 0)
    (fun t X Y row h hg hr => by
      obtain ⟨m, h1, h2, h3, h4⟩ := h
      exact ⟨m, h1, h2, h3, h4.own (by omega) hg hr⟩)
    (fun c t X Y row h hg hr => by
      obtain ⟨h1, m, r, h2, h3⟩ := h
      exact ⟨h1, m, r, h2, h3.own (by omega) hg hr⟩)
    (fun t X v h => by
      obtain ⟨m, h1, h2, h3, h4⟩ := h
      exact ⟨m, h1, h2, h3, h4.set _ (by omega) _⟩)
    ⟨n, n0, Int.le_refl _, fun rest hr => by rw [← HR.out, hr]; rfl, hI0⟩
    (fun x => { tmps := #[.func (.func 58) #[] #[.pointer (some ⟨B, 0, none⟩)], .int .i64 d, .int .i64 s, .int .i64 n, .pointer (some ⟨w.heap.size, 0, none⟩), undef, undef, .pointer (some ⟨w.heap.size + 1, 0, none⟩), .pointer (some ⟨w.heap.size + 1 + 1, 0, none⟩), .pointer (some ⟨w.heap.size + 1 + 1 + 1, 0, none⟩), .int .i64 x, .int .i64 d, .int .i64 s, .func (.func 75) #[] #[.pointer (some ⟨w.heap.size + 1 + 1 + 1 + 1, 0, none⟩), .pointer (some ⟨w.heap.size + 1 + 1 + 1 + 1 + 1, 0, none⟩)], .int .i64 x, undef, undef, undef, undef, undef, undef, undef, undef, undef], defers := [] }) ?assign ?body ?done ?stop
  case assign =>
    intro l x W K hK
    gi_wp2
    exact hK
  case body =>
    rintro l pre x W ⟨m, h1, h2, h3, hI⟩ ⟨rest, hpre⟩
    have hx := HD.out x (by rw [← hpre]; simp)
    have hnx := h3 (x :: rest) (by rw [← hpre]; simp)
    have hBZ := Lib.hid (HB.out.2 W hI.bel x hx.1 hx.2)
    have HI := Lib.hid hI
    have HPRE := Lib.hid hpre
    have HNX := Lib.hid hnx
    have H3 := Lib.hid h3
    have e1 : WL.heap.size = w.heap.size + 6 := hszL
    have c0 : W.cell? ⟨w.heap.size, 0, none⟩ = some (.func (.func 58) #[] #[.pointer (some ⟨B, 0, none⟩)]) := by unfold World.cell?; rw [hI.b0]; rfl
    clear hI hpre hnx h3 hx
    cases hpx : p x with
    | false =>
      rw [hpx] at hBZ
      gi_wp2
      refine ⟨trivial, (callsIn_round l (callsIn_wide.2 hBZ.out)).mono ?_⟩
      rintro e w' ⟨rfl, hb⟩
      have hI' := HI.out.below hb
      have HF : Hid (∀ rest, dys s k d = pre ++ [x] ++ rest → nthL p rest m = R) := fun rest' hr => by
        have := H3.out (x :: rest') (by rw [hr]; simp)
        simpa [nthL, hpx] using this
      have HE : Hid (w'.heap[w.heap.size + 4]? = W.heap[w.heap.size + 4]? ∧ w'.heap[w.heap.size + 5]? = W.heap[w.heap.size + 5]?) := by
        have hz := HI.out.sz
        exact ⟨hb.block _ (by omega), hb.block _ (by omega)⟩
      have HI' := Lib.hid hI'
      clear hI' hBZ
      gi_wp2
      exact ⟨KeepsFrom.of_below hb, HE.out, m, h1, h2, HF.out, HI'.out⟩
    | true =>
      rw [hpx] at hBZ
      gi_wp2
      refine ⟨trivial, (callsIn_round l (callsIn_wide.2 hBZ.out)).mono ?_⟩
      rintro e w' ⟨rfl, hb⟩
      have hI' := HI.out.below hb
      have c1 : w'.cell? ⟨w.heap.size + 1, 0, none⟩ = some (.int .i64 m) := by unfold World.cell?; rw [hI'.b1]; rfl
      have f1 : w'.frozen? ⟨w.heap.size + 1, 0, none⟩ = false := by unfold World.frozen?; rw [hI'.b1]; rfl
      have c2 : w'.cell? ⟨w.heap.size + 1 + 1, 0, none⟩ = some (.int .i64 0) := by unfold World.cell?; rw [hI'.b2]; rfl
      have f2 : w'.frozen? ⟨w.heap.size + 1 + 1, 0, none⟩ = false := by unfold World.frozen?; rw [hI'.b2]; rfl
      have c3 : w'.cell? ⟨w.heap.size + 1 + 1 + 1, 0, none⟩ = some (.int .i64 0) := by unfold World.cell?; rw [hI'.b3]; rfl
      have f3 : w'.frozen? ⟨w.heap.size + 1 + 1 + 1, 0, none⟩ = false := by unfold World.frozen?; rw [hI'.b3]; rfl
      have c1' : (w'.setCell ⟨w.heap.size + 1, 0, none⟩ (.int .i64 (m - 1))).cell? ⟨w.heap.size + 1, 0, none⟩ = some (.int .i64 (m - 1)) := by unfold World.cell?; rw [(hI'.set1 (m - 1)).b1]; rfl
      have HI' := Lib.hid hI'
      clear hI' hBZ
      have m9 : m ≤ 100000 := by omega
      have hz := HI.out.sz
      by_cases hm : m - 1 = 0
      · have hm' : (m - 1 == 0) = true := beq_iff_eq.2 hm
        have HX : Hid (R = some x) := by
          have := HNX.out
          simp only [nthL] at this
          rw [if_pos hpx, if_pos hm] at this
          exact this.symm
        have HI3 := Lib.hid (((HI'.out.set1 (m - 1)).set2 x).set3 0)
        clear hm
        gi_wp2
        exact ⟨((((KeepsFrom.of_below hb).trans ((KeepsOthers.setCell _ _ _).from _)).trans ((KeepsOthers.setCell _ _ _).from _)).trans ((KeepsOthers.setCell _ _ _).from _)), rfl, _, x, HX.out, HI3.out⟩
      · have hm' : (m - 1 == 0) = false := by rw [beq_eq_false_iff_ne]; exact hm
        have HF : Hid (∀ rest, dys s k d = pre ++ [x] ++ rest → nthL p rest (m - 1) = R) := fun rest' hr => by
          have := H3.out (x :: rest') (by rw [hr]; simp)
          simp only [nthL] at this
          rw [if_pos hpx, if_neg hm] at this
          exact this
        have HI3 := Lib.hid (HI'.out.set1 (m - 1))
        have HE : Hid ((w'.setCell ⟨w.heap.size + 1, 0, none⟩ (.int .i64 (m - 1))).heap[w.heap.size + 4]? = W.heap[w.heap.size + 4]? ∧ (w'.setCell ⟨w.heap.size + 1, 0, none⟩ (.int .i64 (m - 1))).heap[w.heap.size + 5]? = W.heap[w.heap.size + 5]?) :=
          ⟨(Below.heap_setCell w' ⟨w.heap.size + 1, 0, none⟩ _ _ (by show _ ≠ w.heap.size + 1; omega)).trans (hb.block _ (by omega)), (Below.heap_setCell w' ⟨w.heap.size + 1, 0, none⟩ _ _ (by show _ ≠ w.heap.size + 1; omega)).trans (hb.block _ (by omega))⟩
        have HM : Hid (1 ≤ m - 1 ∧ m - 1 ≤ n) := ⟨by omega, by omega⟩
        clear hm
        gi_wp2
        exact ⟨(KeepsFrom.of_below hb).trans ((KeepsOthers.setCell _ _ _).from _), HE.out, m - 1, HM.out.1, HM.out.2, HF.out, HI3.out⟩
  case done =>
    rintro D W hD ⟨m, h1, h2, h3, hI⟩ hK
    have hR : R = none := by rw [← h3 [] (by simp)]; rfl
    have c2 : W.cell? ⟨w.heap.size + 1 + 1, 0, none⟩ = some (.int .i64 0) := by unfold World.cell?; rw [hI.b2]; rfl
    have f2 : W.frozen? ⟨w.heap.size + 1 + 1, 0, none⟩ = false := by unfold World.frozen?; rw [hI.b2]; rfl
    have c3 : W.cell? ⟨w.heap.size + 1 + 1 + 1, 0, none⟩ = some (.int .i64 0) := by unfold World.cell?; rw [hI.b3]; rfl
    have f3 : W.frozen? ⟨w.heap.size + 1 + 1 + 1, 0, none⟩ = false := by unfold World.frozen?; rw [hI.b3]; rfl
    have HI := Lib.hid hI
    have HK := Lib.hid hK
    have HR' := Lib.hid hR
    have hDz : w.heap.size + 6 ≤ D := by omega
    clear hI hK hR h3
    gi_wp2
    obtain ⟨W2, hW2⟩ : ∃ W2, (W.setCell ⟨w.heap.size + 1 + 1, 0, none⟩ (.int .i64 0)).setCell ⟨w.heap.size + 1 + 1 + 1, 0, none⟩ (.int .i64 40) = W2 := ⟨_, rfl⟩
    have HI2 : NthI w W2 B m 0 40 := by rw [← hW2]; exact (HI.out.set2 0).set3 40
    have K2 : W2.heap[D]? = some (.deferred (some [])) := by
      rw [← hW2]
      exact (Below.heap_setCell _ ⟨w.heap.size + 1 + 1 + 1, 0, none⟩ _ D (by show D ≠ w.heap.size + 1 + 1 + 1; omega)).trans ((Below.heap_setCell _ ⟨w.heap.size + 1 + 1, 0, none⟩ _ D (by show D ≠ w.heap.size + 1 + 1; omega)).trans HK.out)
    rw [hW2]
    have HI3 := HI2.put D (by omega) K2 rfl rfl (.deferred none)
    refine ⟨by simp, .inl ⟨_, _, rfl, run_takeDeferred K2, ?_⟩⟩
    exact ⟨_, results_cells2 rfl _ _ (w.heap.size + 1 + 1) (w.heap.size + 1 + 1 + 1) (.int .i64 0) (.int .i64 40) rfl rfl (by unfold World.cell?; rw [HI3.b2]; rfl) (by unfold World.cell?; rw [HI3.b3]; rfl) Tryd.isAgg3 Tryd.isAgg28, by rw [HR'.out]; rfl, HI3.bel⟩
  case stop =>
    rintro D c pre W hD _ ⟨rfl, m, r, rfl, hI⟩ hK
    have HI3 := hI.put D (by omega) hK rfl rfl (.deferred none)
    gi_wp2
    refine ⟨by simp, .inl ⟨_, _, rfl, run_takeDeferred hK, ?_⟩⟩
    exact ⟨_, results_cells2 rfl _ _ (w.heap.size + 1 + 1) (w.heap.size + 1 + 1 + 1) (.int .i64 r) (.int .i64 0) rfl rfl (by unfold World.cell?; rw [HI3.b2]; rfl) (by unfold World.cell?; rw [HI3.b3]; rfl) Tryd.isAgg3 Tryd.isAgg28, rfl, HI3.bel⟩
end Go.Proofs.YtfheeipggedaiaaDoor

/- Layer 9: the program's iterators over the nodes of contracts and of expressions: what they hand on. -/
import Derived.Test.YtalejbabhjlehaaGreatDoorPk2
import Derived.Test.YtalejbabhjlehaaGreatDoorPk3
import Derived.Shelf.Abstract
import Derived.OwnWalkIn
import Derived.TacticsInMore
import Derived.LoopNIn
import Derived.LoopIn
namespace Go.Proofs.YtalejbabhjlehaaGreatDoor
open Go Go.RowKit Go.Shelf
attribute [local go_sem] Oper.semAt_some
theorem blk_cell {W : World} {b j : Nat} {cs : Array Value} {ty : TypeId} {v : Value} (h : W.heap[b]? = some (.cells cs ty (0, 0))) (hv : cs[j]? = some v) : W.cell? ⟨b, j, none⟩ = some v := by simp [World.cell?, h, hv]
theorem wideD (k : Nat) : Fence.wide.depth.isSome = true → 1 ≤ k := fun h => by cases h
structure VisC (yb bb vb l : Nat) (W : World) : Prop where
  y : Boxed W yb 100 (.func (.yield l) #[] #[])
  b : Boxed W bb 85 (.func (.func 76) #[] #[])
  v : Boxed W vb 100 (.func (.func 98) #[] #[.pointer (some ⟨yb, 0, none⟩), .pointer (some ⟨bb, 0, none⟩), .pointer (some ⟨vb, 0, none⟩)])
theorem VisC.step {yb bb vb l n₀ B : Nat} {W W' : World} (h : VisC yb bb vb l W) (hs : Step n₀ B (some l) W W') (h1 : B ≤ yb) (h2 : B ≤ bb) (h3 : B ≤ vb) (q1 : yb ≠ l) (q2 : bb ≠ l) (q3 : vb ≠ l) : VisC yb bb vb l W' :=
  ⟨hs.boxed h1 (fun e => q1 (by injection e)) (by decide) h.y, hs.boxed h2 (fun e => q2 (by injection e)) (by decide) h.b, hs.boxed h3 (fun e => q3 (by injection e)) (by decide) h.v⟩
theorem VisC.alloc {yb bb vb l : Nat} {W : World} (h : VisC yb bb vb l W) (o : Obj) : VisC yb bb vb l (W.alloc o) := ⟨h.y.alloc o, h.b.alloc o, h.v.alloc o⟩
set_option maxRecDepth 100000 in
set_option maxHeartbeats 1000000 in
theorem subC_any (T : Ct) (w : World) : Calls Tryz.prog 76 #[T.val] w fun e w' => e = .returned (.slice T.A T.sub.length T.c) ∧ w' = w.alloc (.cells #[.int .u8 T.k, .string T.f, .string T.t, .string T.n, .int .u8 T.x.k, .string T.x.r, .string T.x.n, .int .i64 T.x.d, .slice T.x.A T.x.sub.length T.x.c, .int .i64 T.d, .slice T.DA T.dl.length T.dc, .slice T.A T.sub.length T.c] 32) := by
  have c := (Ct.Box.new w T 32).c11
  go_enter Tryz.func76, Tryz.ntmps76
  go_wp2_with (fail)
  go_ret
  exact ⟨rfl, rfl⟩
theorem Ct.In.partT {w : World} {T : Ct} (h : T.In w) {j : Nat} (hj : j < T.sub.length) : ∃ b o, T.A = some ⟨b, o, none⟩ ∧ b < w.heap.size ∧ T.sub[j].In w ∧ w.cell? ⟨b, o + j * 12, none⟩ = some (.int .u8 T.sub[j].k) ∧ w.cell? ⟨b, o + j * 12 + 1, none⟩ = some (.string T.sub[j].f) ∧ w.cell? ⟨b, o + j * 12 + 2, none⟩ = some (.string T.sub[j].t) ∧ w.cell? ⟨b, o + j * 12 + 3, none⟩ = some (.string T.sub[j].n) ∧ w.cell? ⟨b, o + j * 12 + 4, none⟩ = some (.int .u8 T.sub[j].x.k) ∧ w.cell? ⟨b, o + j * 12 + 5, none⟩ = some (.string T.sub[j].x.r) ∧ w.cell? ⟨b, o + j * 12 + 6, none⟩ = some (.string T.sub[j].x.n) ∧ w.cell? ⟨b, o + j * 12 + 7, none⟩ = some (.int .i64 T.sub[j].x.d) ∧ w.cell? ⟨b, o + j * 12 + 8, none⟩ = some (.slice T.sub[j].x.A T.sub[j].x.sub.length T.sub[j].x.c) ∧ w.cell? ⟨b, o + j * 12 + 9, none⟩ = some (.int .i64 T.sub[j].d) ∧ w.cell? ⟨b, o + j * 12 + 10, none⟩ = some (.slice T.sub[j].DA T.sub[j].dl.length T.sub[j].dc) ∧ w.cell? ⟨b, o + j * 12 + 11, none⟩ = some (.slice T.sub[j].A T.sub[j].sub.length T.sub[j].c) := by
  obtain ⟨kk, ff, tt, nn, X, dd, DA, dl, dc, A, c, s⟩ := T
  exact h.part hj
theorem Ct.Box.of_block {W : World} {b : Nat} {T : Ct} {ty : TypeId} (h : W.heap[b]? = some (.cells #[.int .u8 T.k, .string T.f, .string T.t, .string T.n, .int .u8 T.x.k, .string T.x.r, .string T.x.n, .int .i64 T.x.d, .slice T.x.A T.x.sub.length T.x.c, .int .i64 T.d, .slice T.DA T.dl.length T.dc, .slice T.A T.sub.length T.c] ty (0, 0))) : Ct.Box W b T := ⟨blk_cell (j := 0) h rfl, blk_cell (j := 1) h rfl, blk_cell (j := 2) h rfl, blk_cell (j := 3) h rfl, blk_cell (j := 4) h rfl, blk_cell (j := 5) h rfl, blk_cell (j := 6) h rfl, blk_cell (j := 7) h rfl, blk_cell (j := 8) h rfl, blk_cell (j := 9) h rfl, blk_cell (j := 10) h rfl, blk_cell (j := 11) h rfl⟩
set_option maxRecDepth 100000 in
set_option maxHeartbeats 4000000 in
theorem visitC (n₀ B l yb bb vb : Nat) (xs : List (Nat × Ct)) (w0 : World) (hn : n₀ = w0.heap.size) (q1 : B ≤ yb) (q2 : B ≤ bb) (q3 : B ≤ vb) (r1 : yb ≠ l) (r2 : bb ≠ l) (r3 : vb ≠ l) (J Jx : List (Nat × Ct) → World → Prop) (hJ : ∀ s W o, J s W → J s (W.alloc o))
    (hY : ∀ m pre x W1, pre ++ [x] <+: xs → J pre W1 → YieldAt Fence.wide m Tryz.prog l #[.int .i64 x.1, x.2.val] W1 fun e W' =>
      ((e = .returned (.bool true) ∧ J (pre ++ [x]) W') ∨ (e = .returned (.bool false) ∧ Jx (pre ++ [x]) W')) ∧ Step n₀ B (some l) W1 W') (T : Ct) :
    ∀ (n L : Nat) (pre : List (Nat × Ct)) (W : World), T.In w0 → L + T.siz ≤ 1000000 → Below n₀ w0 W → B ≤ W.heap.size → l < W.heap.size → VisC yb bb vb l W → J pre W → pre ++ T.nod L <+: xs →
      CallsIn Fence.wide n Tryz.prog 98 #[.int .i64 L, T.val, .pointer (some ⟨yb, 0, none⟩), .pointer (some ⟨bb, 0, none⟩), .pointer (some ⟨vb, 0, none⟩)] W fun e W' =>
        ((e = .returned (.bool true) ∧ J (pre ++ T.nod L) W') ∨ (e = .returned (.bool false) ∧ ∃ q, q <+: pre ++ T.nod L ∧ Jx q W')) ∧ Step n₀ B (some l) W W' := by
  induction T using Ct.ind with
  | h kk ff tt nn X dd DA dl dc A c s ih =>
  intro n L pre W hin hL hW hBW hlW hV hj hpre
  subst hn
  have hnW : w0.heap.size ≤ W.heap.size := hW.size
  obtain ⟨T, hT⟩ : ∃ T, T = Ct.mk kk ff tt nn X dd DA dl dc A c s := ⟨_, rfl⟩
  have hnod : T.nod L = (L, T) :: s.flatMap (fun t => t.nod (L + 1)) := by rw [hT]; exact Ct.nod_mk ..
  have hsub : T.sub = s := by rw [hT]; rfl
  rw [← hT] at hin hL hpre ⊢
  rw [hnod] at hpre ⊢
  have HN := Lib.hid hpre
  have hp0 : pre ++ [(L, T)] <+: xs := List.IsPrefix.trans ⟨s.flatMap (fun t => t.nod (L + 1)), by simp⟩ hpre
  have hl63 : T.sub.length ≤ 9223372036854775807 := by have := hin.bd.c1; omega
  have hwr : IntKind.i64.wrap ((L : Int) + 1) = (L : Int) + 1 := by rw [IntKind.wrap_i64]; omega
  have HSz := Lib.hid (show ∀ t ∈ s, L + 1 + t.siz ≤ 1000000 from fun t ht => by have := Ct.siz_sub (k := kk) (f := ff) (t := tt) (n := nn) (x := X) (d := dd) (DA := DA) (dl := dl) (dc := dc) (A := A) (c := c) ht; rw [hT] at hL; omega)
  have HI := Lib.hid (show ∀ W2, Below w0.heap.size w0 W2 → Ct.In W2 (.mk kk ff tt nn X dd DA dl dc A c s) from fun W2 h => by rw [← hT]; exact hin.below h)
  have HIn := Lib.hid (show ∀ t ∈ s, t.In w0 from fun t ht => by
    rw [hT] at hin
    obtain ⟨j, hj, rfl⟩ := List.getElem_of_mem ht
    exact (((Ct.in_mk ..).1 hin).2.2.2 j hj).2)
  have IH := Lib.hid ih
  have HY := Lib.hid hY
  have HJ := Lib.hid hJ
  have HT := Lib.hid hT
  have HS := Lib.hid hsub
  clear hin hL hpre ih hY hJ hnod hT hsub
  obtain ⟨W1, hW1⟩ : ∃ W1, W.alloc (.cells #[.int .u8 T.k, .string T.f, .string T.t, .string T.n, .int .u8 T.x.k, .string T.x.r, .string T.x.n, .int .i64 T.x.d, .slice T.x.A T.x.sub.length T.x.c, .int .i64 T.d, .slice T.DA T.dl.length T.dc, .slice T.A T.sub.length T.c] 32) = W1 := ⟨_, rfl⟩
  have hV1 : VisC yb bb vb l W1 := by rw [← hW1]; exact hV.alloc _
  have hj1 : J pre W1 := by rw [← hW1]; exact HJ.out _ _ _ hj
  have hblk : W1.heap[W.heap.size]? = some (.cells #[.int .u8 T.k, .string T.f, .string T.t, .string T.n, .int .u8 T.x.k, .string T.x.r, .string T.x.n, .int .i64 T.x.d, .slice T.x.A T.x.sub.length T.x.c, .int .i64 T.d, .slice T.DA T.dl.length T.dc, .slice T.A T.sub.length T.c] 32 (0, 0)) := by rw [← hW1]; exact heap_alloc_new W _
  have hbx : Ct.Box W1 W.heap.size T := .of_block hblk
  have hs1 : Step w0.heap.size B (some l) W W1 := by rw [← hW1]; exact Step.alloc _ hnW
  have hY1 : YieldAt Fence.wide (n - 1) Tryz.prog l #[.int .i64 L, .agg #[.int .u8 T.k, .string T.f, .string T.t, .string T.n, .int .u8 T.x.k, .string T.x.r, .string T.x.n, .int .i64 T.x.d, .slice T.x.A T.x.sub.length T.x.c, .int .i64 T.d, .slice T.DA T.dl.length T.dc, .slice T.A T.sub.length T.c]] W1 fun e W2 =>
      (e = .returned (.bool true) ∧ Hid (J (pre ++ [(L, T)]) W2) ∧ Hid (VisC yb bb vb l W2) ∧ Hid (Step w0.heap.size B (some l) W W2) ∧ W2.cell? ⟨bb, 0, none⟩ = some (.func (.func 76) #[] #[]) ∧ W2.cell? ⟨W.heap.size, 0, none⟩ = some (.int .u8 T.k) ∧ W2.cell? ⟨W.heap.size, 1, none⟩ = some (.string T.f) ∧ W2.cell? ⟨W.heap.size, 2, none⟩ = some (.string T.t) ∧ W2.cell? ⟨W.heap.size, 3, none⟩ = some (.string T.n) ∧ W2.cell? ⟨W.heap.size, 4, none⟩ = some (.int .u8 T.x.k) ∧ W2.cell? ⟨W.heap.size, 5, none⟩ = some (.string T.x.r) ∧ W2.cell? ⟨W.heap.size, 6, none⟩ = some (.string T.x.n) ∧ W2.cell? ⟨W.heap.size, 7, none⟩ = some (.int .i64 T.x.d) ∧ W2.cell? ⟨W.heap.size, 8, none⟩ = some (.slice T.x.A T.x.sub.length T.x.c) ∧ W2.cell? ⟨W.heap.size, 9, none⟩ = some (.int .i64 T.d) ∧ W2.cell? ⟨W.heap.size, 10, none⟩ = some (.slice T.DA T.dl.length T.dc) ∧ W2.cell? ⟨W.heap.size, 11, none⟩ = some (.slice T.A T.sub.length T.c)) ∨ (e = .returned (.bool false) ∧ Hid (Jx (pre ++ [(L, T)]) W2) ∧ Hid (Step w0.heap.size B (some l) W W2)) :=
    YieldAt.mono (HY.out (n - 1) pre (L, T) W1 hp0 hj1) fun e W2 h => by
      obtain ⟨h1 | h1, h2⟩ := h
      · have hv := hV1.step h2 q1 q2 q3 r1 r2 r3
        have hx : Ct.Box W2 W.heap.size T := .of_block (h2.same hBW (fun e => by injection e; omega) (ne_str (by decide)) hblk)
        exact .inl ⟨h1.1, h1.2, hv, hs1.trans h2, hv.b.cell, hx.c0, hx.c1, hx.c2, hx.c3, hx.c4, hx.c5, hx.c6, hx.c7, hx.c8, hx.c9, hx.c10, hx.c11⟩
      · exact .inr ⟨h1.1, h1.2, hs1.trans h2⟩
  have HSB := Lib.hid (show ∀ w, CallsIn Fence.wide (n - 1) Tryz.prog 76 #[.agg #[.int .u8 T.k, .string T.f, .string T.t, .string T.n, .int .u8 T.x.k, .string T.x.r, .string T.x.n, .int .i64 T.x.d, .slice T.x.A T.x.sub.length T.x.c, .int .i64 T.d, .slice T.DA T.dl.length T.dc, .slice T.A T.sub.length T.c]] w fun e w' => e = .returned (.slice T.A T.sub.length T.c) ∧ w' = w.alloc (.cells #[.int .u8 T.k, .string T.f, .string T.t, .string T.n, .int .u8 T.x.k, .string T.x.r, .string T.x.n, .int .i64 T.x.d, .slice T.x.A T.x.sub.length T.x.c, .int .i64 T.d, .slice T.DA T.dl.length T.dc, .slice T.A T.sub.length T.c] 32) from fun (w : World) => callsIn_wide (n := n - 1).2 (subC_any T w))
  obtain ⟨fn, tmps, assign, body, hy, hR⟩ := hY1
  have z0 := hV1.y.cell
  obtain ⟨c0, c1, c2, c3, c4, c5, c6, c7, c8, c9, c10, c11⟩ := hbx
  have HW := Lib.hid hW
  have HP := Lib.hid (show ∀ W2, Below w0.heap.size w0 W2 → ∀ k (hk : k < T.sub.length), ∃ b o, T.A = some ⟨b, o, none⟩ ∧ T.sub[k].In w0 ∧ (L + 1 + T.sub[k].siz ≤ 1000000) ∧ pre ++ (L, T) :: (T.sub.take (k + 1)).flatMap (fun t => t.nod (L + 1)) = pre ++ (L, T) :: (T.sub.take k).flatMap (fun t => t.nod (L + 1)) ++ T.sub[k].nod (L + 1) ∧ pre ++ (L, T) :: (T.sub.take (k + 1)).flatMap (fun t => t.nod (L + 1)) <+: pre ++ (L, T) :: T.sub.flatMap (fun t => t.nod (L + 1)) ∧ Hid (∀ (n : Nat) (pre : List (Nat × Ct)) (W : World), Below w0.heap.size w0 W → B ≤ W.heap.size → l < W.heap.size → VisC yb bb vb l W → J pre W → pre ++ T.sub[k].nod (L + 1) <+: xs →
      CallsIn Fence.wide n Tryz.prog 98 #[.int .i64 ((L : Int) + 1), .agg #[.int .u8 T.sub[k].k, .string T.sub[k].f, .string T.sub[k].t, .string T.sub[k].n, .int .u8 T.sub[k].x.k, .string T.sub[k].x.r, .string T.sub[k].x.n, .int .i64 T.sub[k].x.d, .slice T.sub[k].x.A T.sub[k].x.sub.length T.sub[k].x.c, .int .i64 T.sub[k].d, .slice T.sub[k].DA T.sub[k].dl.length T.sub[k].dc, .slice T.sub[k].A T.sub[k].sub.length T.sub[k].c], .pointer (some ⟨yb, 0, none⟩), .pointer (some ⟨bb, 0, none⟩), .pointer (some ⟨vb, 0, none⟩)] W fun e W' =>
        ((e = .returned (.bool true) ∧ J (pre ++ T.sub[k].nod (L + 1)) W') ∨ (e = .returned (.bool false) ∧ ∃ q, q <+: pre ++ T.sub[k].nod (L + 1) ∧ Jx q W')) ∧ Step w0.heap.size B (some l) W W') ∧ W2.cell? ⟨b, o + k * 12, none⟩ = some (.int .u8 T.sub[k].k) ∧ W2.cell? ⟨b, o + k * 12 + 1, none⟩ = some (.string T.sub[k].f) ∧ W2.cell? ⟨b, o + k * 12 + 2, none⟩ = some (.string T.sub[k].t) ∧ W2.cell? ⟨b, o + k * 12 + 3, none⟩ = some (.string T.sub[k].n) ∧ W2.cell? ⟨b, o + k * 12 + 4, none⟩ = some (.int .u8 T.sub[k].x.k) ∧ W2.cell? ⟨b, o + k * 12 + 5, none⟩ = some (.string T.sub[k].x.r) ∧ W2.cell? ⟨b, o + k * 12 + 6, none⟩ = some (.string T.sub[k].x.n) ∧ W2.cell? ⟨b, o + k * 12 + 7, none⟩ = some (.int .i64 T.sub[k].x.d) ∧ W2.cell? ⟨b, o + k * 12 + 8, none⟩ = some (.slice T.sub[k].x.A T.sub[k].x.sub.length T.sub[k].x.c) ∧ W2.cell? ⟨b, o + k * 12 + 9, none⟩ = some (.int .i64 T.sub[k].d) ∧ W2.cell? ⟨b, o + k * 12 + 10, none⟩ = some (.slice T.sub[k].DA T.sub[k].dl.length T.sub[k].dc) ∧ W2.cell? ⟨b, o + k * 12 + 11, none⟩ = some (.slice T.sub[k].A T.sub[k].sub.length T.sub[k].c) from fun W2 h2 k hk => by
    have h3 := HI.out W2 h2
    have hm : T.sub[k] ∈ s := by rw [← HS.out]; exact List.getElem_mem hk
    have h4 := HIn.out _ hm
    have h5 := HSz.out _ hm
    have h6 := IH.out _ hm
    rw [← HT.out] at h3
    obtain ⟨b, o, e1, -, -, e2⟩ := h3.partT hk
    refine ⟨b, o, e1, h4, h5, ?_, ?_, fun n pre W g1 g2 g3 g4 g5 g6 => h6 n (L + 1) pre W h4 h5 g1 g2 g3 g4 g5 g6, e2⟩
    · rw [flat_take _ _ _ hk]; simp
    · exact (List.prefix_append_right_inj _).2 (List.cons_prefix_cons.2 ⟨rfl, flat_prefix _ _ _⟩))
  rw [← HS.out]
  rw [← HS.out] at HN
  clear hV hj hV1 hj1 hblk hs1 hW HI HIn HSz IH HY HT HS
  show CallsIn Fence.wide n Tryz.prog 98 #[.int .i64 L, .agg #[.int .u8 T.k, .string T.f, .string T.t, .string T.n, .int .u8 T.x.k, .string T.x.r, .string T.x.n, .int .i64 T.x.d, .slice T.x.A T.x.sub.length T.x.c, .int .i64 T.d, .slice T.DA T.dl.length T.dc, .slice T.A T.sub.length T.c], .pointer (some ⟨yb, 0, none⟩), .pointer (some ⟨bb, 0, none⟩), .pointer (some ⟨vb, 0, none⟩)] W _
  generalize T.A = A' at *
  refine callsIn_of_wp Tryz.func98 rfl trivial ?_ rfl
  simp only [Tryz.ntmps98, List.size_toArray, List.length_cons, List.length_nil, Nat.reduceAdd, Nat.reduceSub, Array.replicate_succ, Array.replicate_zero, List.push_toArray, List.append_toArray, List.nil_append, List.cons_append]
  gi_wp2_with (first
    | ((try refine ⟨wideD _, ?_⟩); refine hR.mono ?_; clear hR; rintro e W2 (⟨rfl, hj2, hv2, hs2, zb, d0, d1, d2, d3, d4, d5, d6, d7, d8, d9, d10, d11⟩ | ⟨rfl, hx2, hs2⟩))
    | (refine ⟨trivial, wideD _, ?_⟩; gi_at_call 76; refine (HSB.out _).mono ?_; rintro e W3 ⟨rfl, rfl⟩))
  · have hn2 := Lib.hid (Nat.le_trans hnW hs2.out.below.size)
    have hj3 := Lib.hid (HJ.out _ _ (.cells #[.int .u8 T.k, .string T.f, .string T.t, .string T.n, .int .u8 T.x.k, .string T.x.r, .string T.x.n, .int .i64 T.x.d, .slice T.x.A T.x.sub.length T.x.c, .int .i64 T.d, .slice T.DA T.dl.length T.dc, .slice A' T.sub.length T.c] 32) hj2.out)
    have hv3 := Lib.hid (hv2.out.alloc (.cells #[.int .u8 T.k, .string T.f, .string T.t, .string T.n, .int .u8 T.x.k, .string T.x.r, .string T.x.n, .int .i64 T.x.d, .slice T.x.A T.x.sub.length T.x.c, .int .i64 T.d, .slice T.DA T.dl.length T.dc, .slice A' T.sub.length T.c] 32))
    have hs3 := Lib.hid (hs2.out.trans (Step.alloc (.cells #[.int .u8 T.k, .string T.f, .string T.t, .string T.n, .int .u8 T.x.k, .string T.x.r, .string T.x.n, .int .i64 T.x.d, .slice T.x.A T.x.sub.length T.x.c, .int .i64 T.d, .slice T.DA T.dl.length T.dc, .slice A' T.sub.length T.c] 32) hn2.out))
    clear hW1 c0 z0 zb
    generalize W2.alloc (.cells #[.int .u8 T.k, .string T.f, .string T.t, .string T.n, .int .u8 T.x.k, .string T.x.r, .string T.x.n, .int .i64 T.x.d, .slice T.x.A T.x.sub.length T.x.c, .int .i64 T.d, .slice T.DA T.dl.length T.dc, .slice A' T.sub.length T.c] 32) = W3 at *
    gi_loopw [19] (fun i wr => ∃ k : Nat, k ≤ T.sub.length ∧ i = .int .i64 k ∧ Hid (J (pre ++ (L, T) :: (T.sub.take k).flatMap (fun t => t.nod (L + 1))) wr) ∧ Hid (VisC yb bb vb l wr) ∧ Hid (Step w0.heap.size B (some l) W wr)) (fun i _ => T.sub.length - (intOf i).toNat)
    case atStart => exact ⟨0, by omega, rfl, by show J (pre ++ (L, T) :: (T.sub.take 0).flatMap _) _; simpa using hj3.out, hv3, hs3⟩
    case round =>
      obtain ⟨k, hk, rfl, hj4, hv4, hs4⟩ := hrel
      by_cases hlt : k < T.sub.length
      · have hbw := HW.out.trans hs4.out.below
        obtain ⟨b, o, rfl, hpi, hz, hf, hg, hq, e0, e1, e2, e3, e4, e5, e6, e7, e8, e9, e10, e11⟩ := HP.out wr hbw k hlt
        have hn4 := Nat.le_trans hnW hs4.out.below.size
        have hQ : CallsIn Fence.wide (n - 1) Tryz.prog 98 #[.int .i64 ((L : Int) + 1), .agg #[.int .u8 T.sub[k].k, .string T.sub[k].f, .string T.sub[k].t, .string T.sub[k].n, .int .u8 T.sub[k].x.k, .string T.sub[k].x.r, .string T.sub[k].x.n, .int .i64 T.sub[k].x.d, .slice T.sub[k].x.A T.sub[k].x.sub.length T.sub[k].x.c, .int .i64 T.sub[k].d, .slice T.sub[k].DA T.sub[k].dl.length T.sub[k].dc, .slice T.sub[k].A T.sub[k].sub.length T.sub[k].c], .pointer (some ⟨yb, 0, none⟩), .pointer (some ⟨bb, 0, none⟩), .pointer (some ⟨vb, 0, none⟩)] (wr.alloc (.cells #[.int .u8 T.sub[k].k, .string T.sub[k].f, .string T.sub[k].t, .string T.sub[k].n, .int .u8 T.sub[k].x.k, .string T.sub[k].x.r, .string T.sub[k].x.n, .int .i64 T.sub[k].x.d, .slice T.sub[k].x.A T.sub[k].x.sub.length T.sub[k].x.c, .int .i64 T.sub[k].d, .slice T.sub[k].DA T.sub[k].dl.length T.sub[k].dc, .slice T.sub[k].A T.sub[k].sub.length T.sub[k].c] 32)) fun e W' =>
            ((e = .returned (.bool true) ∧ Hid (J (pre ++ (L, T) :: (T.sub.take (k + 1)).flatMap (fun t => t.nod (L + 1))) W') ∧ Hid (VisC yb bb vb l W')) ∨ (e = .returned (.bool false) ∧ Hid (∃ q, q <+: pre ++ (L, T) :: T.sub.flatMap (fun t => t.nod (L + 1)) ∧ Jx q W'))) ∧ Hid (Step w0.heap.size B (some l) W W') := by
          have a1 := hv4.out.alloc (.cells #[.int .u8 T.sub[k].k, .string T.sub[k].f, .string T.sub[k].t, .string T.sub[k].n, .int .u8 T.sub[k].x.k, .string T.sub[k].x.r, .string T.sub[k].x.n, .int .i64 T.sub[k].x.d, .slice T.sub[k].x.A T.sub[k].x.sub.length T.sub[k].x.c, .int .i64 T.sub[k].d, .slice T.sub[k].DA T.sub[k].dl.length T.sub[k].dc, .slice T.sub[k].A T.sub[k].sub.length T.sub[k].c] 32)
          have a2 : Step w0.heap.size B (some l) W (wr.alloc (.cells #[.int .u8 T.sub[k].k, .string T.sub[k].f, .string T.sub[k].t, .string T.sub[k].n, .int .u8 T.sub[k].x.k, .string T.sub[k].x.r, .string T.sub[k].x.n, .int .i64 T.sub[k].x.d, .slice T.sub[k].x.A T.sub[k].x.sub.length T.sub[k].x.c, .int .i64 T.sub[k].d, .slice T.sub[k].DA T.sub[k].dl.length T.sub[k].dc, .slice T.sub[k].A T.sub[k].sub.length T.sub[k].c] 32)) := hs4.out.trans (Step.alloc _ hn4)
          refine (hq.out (n - 1) (pre ++ (L, T) :: (T.sub.take k).flatMap (fun t => t.nod (L + 1))) _ (HW.out.trans a2.below) (Nat.le_trans hBW a2.below.size) (Nat.lt_of_lt_of_le hlW a2.below.size) a1 (HJ.out _ _ _ hj4.out) (by rw [← hf]; exact hg.trans HN.out)).mono ?_
          rintro e W' ⟨⟨h1, h2⟩ | ⟨h1, q, h2, h3⟩, h4⟩
          · exact ⟨.inl ⟨h1, by rw [hf]; exact h2, a1.step h4 q1 q2 q3 r1 r2 r3⟩, a2.trans h4⟩
          · exact ⟨.inr ⟨h1, q, by rw [← hf] at h2; exact h2.trans hg, h3⟩, a2.trans h4⟩
        have zv := (hv4.out.alloc (.cells #[.int .u8 T.sub[k].k, .string T.sub[k].f, .string T.sub[k].t, .string T.sub[k].n, .int .u8 T.sub[k].x.k, .string T.sub[k].x.r, .string T.sub[k].x.n, .int .i64 T.sub[k].x.d, .slice T.sub[k].x.A T.sub[k].x.sub.length T.sub[k].x.c, .int .i64 T.sub[k].d, .slice T.sub[k].DA T.sub[k].dl.length T.sub[k].dc, .slice T.sub[k].A T.sub[k].sub.length T.sub[k].c] 32)).v.cell
        clear hf hg hq hz hpi hj4 hv4 hs4 hn4 hbw HP
        generalize T.sub[k] = t at *
        gi_wp2_with (refine ⟨trivial, wideD _, ?_⟩; gi_at_call 98; refine hQ.mono ?_; clear hQ; rintro e W5 ⟨⟨rfl, hj5, hv5⟩ | ⟨rfl, hx5⟩, hs5⟩)
        · go_roundw
          case rel => exact ⟨k + 1, by omega, by go_num, hj5, hv5, hs5⟩
          case measure => simp [intOf]; omega
        · go_ret
          exact ⟨.inr ⟨rfl, hx5.out⟩, hs5.out⟩
      · obtain rfl : k = T.sub.length := by omega
        gi_wp2
        go_ret
        exact ⟨.inl ⟨rfl, by have := hj4.out; rwa [List.take_length] at this⟩, hs4.out⟩
  · go_ret
    exact ⟨.inr ⟨rfl, _, by exact ⟨T.sub.flatMap (fun t => t.nod (L + 1)), by simp⟩, hx2.out⟩, hs2.out⟩
structure VisE (yb bb vb l : Nat) (W : World) : Prop where
  y : Boxed W yb 91 (.func (.yield l) #[] #[])
  b : Boxed W bb 93 (.func (.func 85) #[] #[])
  v : Boxed W vb 91 (.func (.func 104) #[] #[.pointer (some ⟨yb, 0, none⟩), .pointer (some ⟨bb, 0, none⟩), .pointer (some ⟨vb, 0, none⟩)])
theorem VisE.step {yb bb vb l n₀ B : Nat} {W W' : World} (h : VisE yb bb vb l W) (hs : Step n₀ B (some l) W W') (h1 : B ≤ yb) (h2 : B ≤ bb) (h3 : B ≤ vb) (q1 : yb ≠ l) (q2 : bb ≠ l) (q3 : vb ≠ l) : VisE yb bb vb l W' :=
  ⟨hs.boxed h1 (fun e => q1 (by injection e)) (by decide) h.y, hs.boxed h2 (fun e => q2 (by injection e)) (by decide) h.b, hs.boxed h3 (fun e => q3 (by injection e)) (by decide) h.v⟩
theorem VisE.alloc {yb bb vb l : Nat} {W : World} (h : VisE yb bb vb l W) (o : Obj) : VisE yb bb vb l (W.alloc o) := ⟨h.y.alloc o, h.b.alloc o, h.v.alloc o⟩
set_option maxRecDepth 100000 in
set_option maxHeartbeats 1000000 in
theorem subE_any (T : Ex) (w : World) : Calls Tryz.prog 85 #[T.val] w fun e w' => e = .returned (.slice T.A T.sub.length T.c) ∧ w' = w.alloc (.cells #[.int .u8 T.k, .string T.r, .string T.n, .int .i64 T.d, .slice T.A T.sub.length T.c] 29) := by
  have c := (Ex.Box.new w T 29).c4
  go_enter Tryz.func85, Tryz.ntmps85
  go_wp2_with (fail)
  go_ret
  exact ⟨rfl, rfl⟩
theorem Ex.In.partT {w : World} {T : Ex} (h : T.In w) {j : Nat} (hj : j < T.sub.length) : ∃ b o, T.A = some ⟨b, o, none⟩ ∧ b < w.heap.size ∧ T.sub[j].In w ∧ w.cell? ⟨b, o + j * 5, none⟩ = some (.int .u8 T.sub[j].k) ∧ w.cell? ⟨b, o + j * 5 + 1, none⟩ = some (.string T.sub[j].r) ∧ w.cell? ⟨b, o + j * 5 + 2, none⟩ = some (.string T.sub[j].n) ∧ w.cell? ⟨b, o + j * 5 + 3, none⟩ = some (.int .i64 T.sub[j].d) ∧ w.cell? ⟨b, o + j * 5 + 4, none⟩ = some (.slice T.sub[j].A T.sub[j].sub.length T.sub[j].c) := by
  obtain ⟨kk, rr, nn, dd, A, c, s⟩ := T
  exact h.part hj
theorem Ex.Box.of_block {W : World} {b : Nat} {T : Ex} {ty : TypeId} (h : W.heap[b]? = some (.cells #[.int .u8 T.k, .string T.r, .string T.n, .int .i64 T.d, .slice T.A T.sub.length T.c] ty (0, 0))) : Ex.Box W b T := ⟨blk_cell (j := 0) h rfl, blk_cell (j := 1) h rfl, blk_cell (j := 2) h rfl, blk_cell (j := 3) h rfl, blk_cell (j := 4) h rfl⟩
set_option maxRecDepth 100000 in
set_option maxHeartbeats 4000000 in
theorem visitE (n₀ B l yb bb vb : Nat) (xs : List (Nat × Ex)) (w0 : World) (hn : n₀ = w0.heap.size) (q1 : B ≤ yb) (q2 : B ≤ bb) (q3 : B ≤ vb) (r1 : yb ≠ l) (r2 : bb ≠ l) (r3 : vb ≠ l) (J Jx : List (Nat × Ex) → World → Prop) (hJ : ∀ s W o, J s W → J s (W.alloc o))
    (hY : ∀ m pre x W1, pre ++ [x] <+: xs → J pre W1 → YieldAt Fence.wide m Tryz.prog l #[.int .i64 x.1, x.2.val] W1 fun e W' =>
      ((e = .returned (.bool true) ∧ J (pre ++ [x]) W') ∨ (e = .returned (.bool false) ∧ Jx (pre ++ [x]) W')) ∧ Step n₀ B (some l) W1 W') (T : Ex) :
    ∀ (n L : Nat) (pre : List (Nat × Ex)) (W : World), T.In w0 → L + T.siz ≤ 1000000 → Below n₀ w0 W → B ≤ W.heap.size → l < W.heap.size → VisE yb bb vb l W → J pre W → pre ++ T.nod L <+: xs →
      CallsIn Fence.wide n Tryz.prog 104 #[.int .i64 L, T.val, .pointer (some ⟨yb, 0, none⟩), .pointer (some ⟨bb, 0, none⟩), .pointer (some ⟨vb, 0, none⟩)] W fun e W' =>
        ((e = .returned (.bool true) ∧ J (pre ++ T.nod L) W') ∨ (e = .returned (.bool false) ∧ ∃ q, q <+: pre ++ T.nod L ∧ Jx q W')) ∧ Step n₀ B (some l) W W' := by
  induction T using Ex.ind with
  | h kk rr nn dd A c s ih =>
  intro n L pre W hin hL hW hBW hlW hV hj hpre
  subst hn
  have hnW : w0.heap.size ≤ W.heap.size := hW.size
  obtain ⟨T, hT⟩ : ∃ T, T = Ex.mk kk rr nn dd A c s := ⟨_, rfl⟩
  have hnod : T.nod L = (L, T) :: s.flatMap (fun t => t.nod (L + 1)) := by rw [hT]; exact Ex.nod_mk ..
  have hsub : T.sub = s := by rw [hT]; rfl
  rw [← hT] at hin hL hpre ⊢
  rw [hnod] at hpre ⊢
  have HN := Lib.hid hpre
  have hp0 : pre ++ [(L, T)] <+: xs := List.IsPrefix.trans ⟨s.flatMap (fun t => t.nod (L + 1)), by simp⟩ hpre
  have hl63 : T.sub.length ≤ 9223372036854775807 := by have := hin.bd.c1; omega
  have hwr : IntKind.i64.wrap ((L : Int) + 1) = (L : Int) + 1 := by rw [IntKind.wrap_i64]; omega
  have HSz := Lib.hid (show ∀ t ∈ s, L + 1 + t.siz ≤ 1000000 from fun t ht => by have := Ex.siz_sub (k := kk) (r := rr) (n := nn) (d := dd) (A := A) (c := c) ht; rw [hT] at hL; omega)
  have HI := Lib.hid (show ∀ W2, Below w0.heap.size w0 W2 → Ex.In W2 (.mk kk rr nn dd A c s) from fun W2 h => by rw [← hT]; exact hin.below h)
  have HIn := Lib.hid (show ∀ t ∈ s, t.In w0 from fun t ht => by
    rw [hT] at hin
    obtain ⟨j, hj, rfl⟩ := List.getElem_of_mem ht
    exact (((Ex.in_mk ..).1 hin).2 j hj).2)
  have IH := Lib.hid ih
  have HY := Lib.hid hY
  have HJ := Lib.hid hJ
  have HT := Lib.hid hT
  have HS := Lib.hid hsub
  clear hin hL hpre ih hY hJ hnod hT hsub
  obtain ⟨W1, hW1⟩ : ∃ W1, W.alloc (.cells #[.int .u8 T.k, .string T.r, .string T.n, .int .i64 T.d, .slice T.A T.sub.length T.c] 29) = W1 := ⟨_, rfl⟩
  have hV1 : VisE yb bb vb l W1 := by rw [← hW1]; exact hV.alloc _
  have hj1 : J pre W1 := by rw [← hW1]; exact HJ.out _ _ _ hj
  have hblk : W1.heap[W.heap.size]? = some (.cells #[.int .u8 T.k, .string T.r, .string T.n, .int .i64 T.d, .slice T.A T.sub.length T.c] 29 (0, 0)) := by rw [← hW1]; exact heap_alloc_new W _
  have hbx : Ex.Box W1 W.heap.size T := .of_block hblk
  have hs1 : Step w0.heap.size B (some l) W W1 := by rw [← hW1]; exact Step.alloc _ hnW
  have hY1 : YieldAt Fence.wide (n - 1) Tryz.prog l #[.int .i64 L, .agg #[.int .u8 T.k, .string T.r, .string T.n, .int .i64 T.d, .slice T.A T.sub.length T.c]] W1 fun e W2 =>
      (e = .returned (.bool true) ∧ Hid (J (pre ++ [(L, T)]) W2) ∧ Hid (VisE yb bb vb l W2) ∧ Hid (Step w0.heap.size B (some l) W W2) ∧ W2.cell? ⟨bb, 0, none⟩ = some (.func (.func 85) #[] #[]) ∧ W2.cell? ⟨W.heap.size, 0, none⟩ = some (.int .u8 T.k) ∧ W2.cell? ⟨W.heap.size, 1, none⟩ = some (.string T.r) ∧ W2.cell? ⟨W.heap.size, 2, none⟩ = some (.string T.n) ∧ W2.cell? ⟨W.heap.size, 3, none⟩ = some (.int .i64 T.d) ∧ W2.cell? ⟨W.heap.size, 4, none⟩ = some (.slice T.A T.sub.length T.c)) ∨ (e = .returned (.bool false) ∧ Hid (Jx (pre ++ [(L, T)]) W2) ∧ Hid (Step w0.heap.size B (some l) W W2)) :=
    YieldAt.mono (HY.out (n - 1) pre (L, T) W1 hp0 hj1) fun e W2 h => by
      obtain ⟨h1 | h1, h2⟩ := h
      · have hv := hV1.step h2 q1 q2 q3 r1 r2 r3
        have hx : Ex.Box W2 W.heap.size T := .of_block (h2.same hBW (fun e => by injection e; omega) (ne_str (by decide)) hblk)
        exact .inl ⟨h1.1, h1.2, hv, hs1.trans h2, hv.b.cell, hx.c0, hx.c1, hx.c2, hx.c3, hx.c4⟩
      · exact .inr ⟨h1.1, h1.2, hs1.trans h2⟩
  have HSB := Lib.hid (show ∀ w, CallsIn Fence.wide (n - 1) Tryz.prog 85 #[.agg #[.int .u8 T.k, .string T.r, .string T.n, .int .i64 T.d, .slice T.A T.sub.length T.c]] w fun e w' => e = .returned (.slice T.A T.sub.length T.c) ∧ w' = w.alloc (.cells #[.int .u8 T.k, .string T.r, .string T.n, .int .i64 T.d, .slice T.A T.sub.length T.c] 29) from fun (w : World) => callsIn_wide (n := n - 1).2 (subE_any T w))
  obtain ⟨fn, tmps, assign, body, hy, hR⟩ := hY1
  have z0 := hV1.y.cell
  obtain ⟨c0, c1, c2, c3, c4⟩ := hbx
  have HW := Lib.hid hW
  have HP := Lib.hid (show ∀ W2, Below w0.heap.size w0 W2 → ∀ k (hk : k < T.sub.length), ∃ b o, T.A = some ⟨b, o, none⟩ ∧ T.sub[k].In w0 ∧ (L + 1 + T.sub[k].siz ≤ 1000000) ∧ pre ++ (L, T) :: (T.sub.take (k + 1)).flatMap (fun t => t.nod (L + 1)) = pre ++ (L, T) :: (T.sub.take k).flatMap (fun t => t.nod (L + 1)) ++ T.sub[k].nod (L + 1) ∧ pre ++ (L, T) :: (T.sub.take (k + 1)).flatMap (fun t => t.nod (L + 1)) <+: pre ++ (L, T) :: T.sub.flatMap (fun t => t.nod (L + 1)) ∧ Hid (∀ (n : Nat) (pre : List (Nat × Ex)) (W : World), Below w0.heap.size w0 W → B ≤ W.heap.size → l < W.heap.size → VisE yb bb vb l W → J pre W → pre ++ T.sub[k].nod (L + 1) <+: xs →
      CallsIn Fence.wide n Tryz.prog 104 #[.int .i64 ((L : Int) + 1), .agg #[.int .u8 T.sub[k].k, .string T.sub[k].r, .string T.sub[k].n, .int .i64 T.sub[k].d, .slice T.sub[k].A T.sub[k].sub.length T.sub[k].c], .pointer (some ⟨yb, 0, none⟩), .pointer (some ⟨bb, 0, none⟩), .pointer (some ⟨vb, 0, none⟩)] W fun e W' =>
        ((e = .returned (.bool true) ∧ J (pre ++ T.sub[k].nod (L + 1)) W') ∨ (e = .returned (.bool false) ∧ ∃ q, q <+: pre ++ T.sub[k].nod (L + 1) ∧ Jx q W')) ∧ Step w0.heap.size B (some l) W W') ∧ W2.cell? ⟨b, o + k * 5, none⟩ = some (.int .u8 T.sub[k].k) ∧ W2.cell? ⟨b, o + k * 5 + 1, none⟩ = some (.string T.sub[k].r) ∧ W2.cell? ⟨b, o + k * 5 + 2, none⟩ = some (.string T.sub[k].n) ∧ W2.cell? ⟨b, o + k * 5 + 3, none⟩ = some (.int .i64 T.sub[k].d) ∧ W2.cell? ⟨b, o + k * 5 + 4, none⟩ = some (.slice T.sub[k].A T.sub[k].sub.length T.sub[k].c) from fun W2 h2 k hk => by
    have h3 := HI.out W2 h2
    have hm : T.sub[k] ∈ s := by rw [← HS.out]; exact List.getElem_mem hk
    have h4 := HIn.out _ hm
    have h5 := HSz.out _ hm
    have h6 := IH.out _ hm
    rw [← HT.out] at h3
    obtain ⟨b, o, e1, -, -, e2⟩ := h3.partT hk
    refine ⟨b, o, e1, h4, h5, ?_, ?_, fun n pre W g1 g2 g3 g4 g5 g6 => h6 n (L + 1) pre W h4 h5 g1 g2 g3 g4 g5 g6, e2⟩
    · rw [flat_take _ _ _ hk]; simp
    · exact (List.prefix_append_right_inj _).2 (List.cons_prefix_cons.2 ⟨rfl, flat_prefix _ _ _⟩))
  rw [← HS.out]
  rw [← HS.out] at HN
  clear hV hj hV1 hj1 hblk hs1 hW HI HIn HSz IH HY HT HS
  show CallsIn Fence.wide n Tryz.prog 104 #[.int .i64 L, .agg #[.int .u8 T.k, .string T.r, .string T.n, .int .i64 T.d, .slice T.A T.sub.length T.c], .pointer (some ⟨yb, 0, none⟩), .pointer (some ⟨bb, 0, none⟩), .pointer (some ⟨vb, 0, none⟩)] W _
  generalize T.A = A' at *
  refine callsIn_of_wp Tryz.func104 rfl trivial ?_ rfl
  simp only [Tryz.ntmps104, List.size_toArray, List.length_cons, List.length_nil, Nat.reduceAdd, Nat.reduceSub, Array.replicate_succ, Array.replicate_zero, List.push_toArray, List.append_toArray, List.nil_append, List.cons_append]
  gi_wp2_with (first
    | ((try refine ⟨wideD _, ?_⟩); refine hR.mono ?_; clear hR; rintro e W2 (⟨rfl, hj2, hv2, hs2, zb, d0, d1, d2, d3, d4⟩ | ⟨rfl, hx2, hs2⟩))
    | (refine ⟨trivial, wideD _, ?_⟩; gi_at_call 85; refine (HSB.out _).mono ?_; rintro e W3 ⟨rfl, rfl⟩))
  · have hn2 := Lib.hid (Nat.le_trans hnW hs2.out.below.size)
    have hj3 := Lib.hid (HJ.out _ _ (.cells #[.int .u8 T.k, .string T.r, .string T.n, .int .i64 T.d, .slice A' T.sub.length T.c] 29) hj2.out)
    have hv3 := Lib.hid (hv2.out.alloc (.cells #[.int .u8 T.k, .string T.r, .string T.n, .int .i64 T.d, .slice A' T.sub.length T.c] 29))
    have hs3 := Lib.hid (hs2.out.trans (Step.alloc (.cells #[.int .u8 T.k, .string T.r, .string T.n, .int .i64 T.d, .slice A' T.sub.length T.c] 29) hn2.out))
    clear hW1 c0 z0 zb
    generalize W2.alloc (.cells #[.int .u8 T.k, .string T.r, .string T.n, .int .i64 T.d, .slice A' T.sub.length T.c] 29) = W3 at *
    gi_loopw [19] (fun i wr => ∃ k : Nat, k ≤ T.sub.length ∧ i = .int .i64 k ∧ Hid (J (pre ++ (L, T) :: (T.sub.take k).flatMap (fun t => t.nod (L + 1))) wr) ∧ Hid (VisE yb bb vb l wr) ∧ Hid (Step w0.heap.size B (some l) W wr)) (fun i _ => T.sub.length - (intOf i).toNat)
    case atStart => exact ⟨0, by omega, rfl, by show J (pre ++ (L, T) :: (T.sub.take 0).flatMap _) _; simpa using hj3.out, hv3, hs3⟩
    case round =>
      obtain ⟨k, hk, rfl, hj4, hv4, hs4⟩ := hrel
      by_cases hlt : k < T.sub.length
      · have hbw := HW.out.trans hs4.out.below
        obtain ⟨b, o, rfl, hpi, hz, hf, hg, hq, e0, e1, e2, e3, e4⟩ := HP.out wr hbw k hlt
        have hn4 := Nat.le_trans hnW hs4.out.below.size
        have hQ : CallsIn Fence.wide (n - 1) Tryz.prog 104 #[.int .i64 ((L : Int) + 1), .agg #[.int .u8 T.sub[k].k, .string T.sub[k].r, .string T.sub[k].n, .int .i64 T.sub[k].d, .slice T.sub[k].A T.sub[k].sub.length T.sub[k].c], .pointer (some ⟨yb, 0, none⟩), .pointer (some ⟨bb, 0, none⟩), .pointer (some ⟨vb, 0, none⟩)] (wr.alloc (.cells #[.int .u8 T.sub[k].k, .string T.sub[k].r, .string T.sub[k].n, .int .i64 T.sub[k].d, .slice T.sub[k].A T.sub[k].sub.length T.sub[k].c] 29)) fun e W' =>
            ((e = .returned (.bool true) ∧ Hid (J (pre ++ (L, T) :: (T.sub.take (k + 1)).flatMap (fun t => t.nod (L + 1))) W') ∧ Hid (VisE yb bb vb l W')) ∨ (e = .returned (.bool false) ∧ Hid (∃ q, q <+: pre ++ (L, T) :: T.sub.flatMap (fun t => t.nod (L + 1)) ∧ Jx q W'))) ∧ Hid (Step w0.heap.size B (some l) W W') := by
          have a1 := hv4.out.alloc (.cells #[.int .u8 T.sub[k].k, .string T.sub[k].r, .string T.sub[k].n, .int .i64 T.sub[k].d, .slice T.sub[k].A T.sub[k].sub.length T.sub[k].c] 29)
          have a2 : Step w0.heap.size B (some l) W (wr.alloc (.cells #[.int .u8 T.sub[k].k, .string T.sub[k].r, .string T.sub[k].n, .int .i64 T.sub[k].d, .slice T.sub[k].A T.sub[k].sub.length T.sub[k].c] 29)) := hs4.out.trans (Step.alloc _ hn4)
          refine (hq.out (n - 1) (pre ++ (L, T) :: (T.sub.take k).flatMap (fun t => t.nod (L + 1))) _ (HW.out.trans a2.below) (Nat.le_trans hBW a2.below.size) (Nat.lt_of_lt_of_le hlW a2.below.size) a1 (HJ.out _ _ _ hj4.out) (by rw [← hf]; exact hg.trans HN.out)).mono ?_
          rintro e W' ⟨⟨h1, h2⟩ | ⟨h1, q, h2, h3⟩, h4⟩
          · exact ⟨.inl ⟨h1, by rw [hf]; exact h2, a1.step h4 q1 q2 q3 r1 r2 r3⟩, a2.trans h4⟩
          · exact ⟨.inr ⟨h1, q, by rw [← hf] at h2; exact h2.trans hg, h3⟩, a2.trans h4⟩
        have zv := (hv4.out.alloc (.cells #[.int .u8 T.sub[k].k, .string T.sub[k].r, .string T.sub[k].n, .int .i64 T.sub[k].d, .slice T.sub[k].A T.sub[k].sub.length T.sub[k].c] 29)).v.cell
        clear hf hg hq hz hpi hj4 hv4 hs4 hn4 hbw HP
        generalize T.sub[k] = t at *
        gi_wp2_with (refine ⟨trivial, wideD _, ?_⟩; gi_at_call 104; refine hQ.mono ?_; clear hQ; rintro e W5 ⟨⟨rfl, hj5, hv5⟩ | ⟨rfl, hx5⟩, hs5⟩)
        · go_roundw
          case rel => exact ⟨k + 1, by omega, by go_num, hj5, hv5, hs5⟩
          case measure => simp [intOf]; omega
        · go_ret
          exact ⟨.inr ⟨rfl, hx5.out⟩, hs5.out⟩
      · obtain rfl : k = T.sub.length := by omega
        gi_wp2
        go_ret
        exact ⟨.inl ⟨rfl, by have := hj4.out; rwa [List.take_length] at this⟩, hs4.out⟩
  · go_ret
    exact ⟨.inr ⟨rfl, _, by exact ⟨T.sub.flatMap (fun t => t.nod (L + 1)), by simp⟩, hx2.out⟩, hs2.out⟩
end Go.Proofs.YtalejbabhjlehaaGreatDoor

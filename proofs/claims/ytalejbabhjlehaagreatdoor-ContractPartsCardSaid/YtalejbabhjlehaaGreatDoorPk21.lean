/- Joined: CnH, CnM, RatAc, RatAf, RatAi. -/
import Derived.Test.YtalejbabhjlehaaGreatDoorPk5
import Derived.Test.YtalejbabhjlehaaGreatDoorPk20
import Derived.Test.YtalejbabhjlehaaGreatDoorPk19
import Derived.Laws.EntriesVeiled
/- Layer 9: the program's levels: the levels of all nodes, in their order. -/
namespace Go.Proofs.YtalejbabhjlehaaGreatDoor
open Go Go.RowKit Go.Shelf
attribute [local go_sem] Oper.semAt_some
theorem Ct.In.all {w : World} {T : Ct} (h : T.In w) {u : Ct} (hu : u ∈ T.all) : u.In w := by
  induction T using Ct.ind with
  | h k f t n x d DA dl dc A c s ih =>
    rw [Ct.all_mk] at hu
    rcases List.mem_cons.1 hu with rfl | hu
    · exact h
    · obtain ⟨y, hy, hu⟩ := List.mem_flatMap.1 hu
      obtain ⟨j, hj, rfl⟩ := List.getElem_of_mem hy
      exact ih _ hy (((Ct.in_mk ..).1 h).2.2.2 j hj).2 hu
theorem Ct.dep_le_siz (T : Ct) : T.dep ≤ T.siz := by
  induction T using Ct.ind with
  | h k f t n x d DA dl dc A c s ih =>
    have hp : 1 ≤ Ct.siz (.mk k f t n x d DA dl dc A c s) := Ct.siz_pos _
    obtain ⟨b, hb⟩ : ∃ b, Ct.siz (.mk k f t n x d DA dl dc A c s) = b + 1 := ⟨_, (Nat.sub_add_cancel hp).symm⟩
    rw [hb, Ct.dep_le]
    refine ⟨?_, fun u ht => ?_⟩
    · have h1 := Ct.siz_mk k f t n x d DA dl dc A c s
      have h2 : x.xdp ≤ x.xsz := by
        unfold Ex.xdp Ex.xsz
        split
        · exact Nat.le_refl _
        · exact Ex.dep_le_siz x
      omega
    · have h1 := Ct.siz_sub (k := k) (f := f) (t := t) (n := n) (x := x) (d := d) (DA := DA) (dl := dl) (dc := dc) (A := A) (c := c) ht
      have h2 := ih _ ht
      omega
theorem Ex.bar_siz {x : Ex} (h : x.bar = true) : x.siz = 1 := by
  unfold Ex.bar at h
  rw [decide_eq_true_eq] at h
  obtain ⟨k, r, n, d, A, c, s⟩ := x
  have h5 : s.length = 0 := h.2.2.2.2
  obtain rfl : s = [] := List.length_eq_zero_iff.1 h5
  rw [Ex.siz_mk]; rfl
theorem Ct.all_siz {T u : Ct} (hu : u ∈ T.all) : u.x.siz ≤ T.siz := by
  induction T using Ct.ind with
  | h k f t n x d DA dl dc A c s ih =>
    rw [Ct.all_mk] at hu
    rcases List.mem_cons.1 hu with rfl | hu
    · show x.siz ≤ _
      rw [Ct.siz_mk]
      unfold Ex.xsz
      split
      · next h => rw [Ex.bar_siz h]; omega
      · omega
    · obtain ⟨y, hy, hu⟩ := List.mem_flatMap.1 hu
      have h1 := ih _ hy hu
      have h2 := Ct.siz_sub (k := k) (f := f) (t := t) (n := n) (x := x) (d := d) (DA := DA) (dl := dl) (dc := dc) (A := A) (c := c) hy
      omega
theorem Ct.nod_mem {T : Ct} {L : Nat} {p : Nat × Ct} (h : p ∈ T.nod L) : p.2 ∈ T.all := by rw [← Ct.nod_snd T L]; exact List.mem_map_of_mem h
theorem blk9_own {β : Type} (B0 k : Nat) (cs : Array Value) (ty : TypeId) : OwnFrom B0 (fun (_ : β) W => W.heap[k]? = some (.cells cs ty (0, 0))) := fun _ W W' row hs hg hr =>
  (hg.block k (lt_of_block hs) (fun e => by obtain ⟨_, o, ho, hc⟩ := hr k e.symm; rw [hs] at ho; cases ho; cases hc)).trans hs
abbrev encL : Nat → Array Value := fun L => #[.int .i64 L]
theorem Ct.lev_pre {T : Ct} {pre : List (Nat × Ct)} {x : Nat × Ct} (h : pre ++ [x] <+: T.nod 1) : pre.flatMap Ct.lv1 ++ Ct.lv1 x <+: T.lev 1 := by
  obtain ⟨r, hr⟩ := h
  exact ⟨r.flatMap Ct.lv1, by unfold Ct.lev; rw [← hr]; simp⟩
set_option maxRecDepth 100000 in
set_option maxHeartbeats 4000000 in
theorem handsL (n₀ B : Nat) (T : Ct) (w0 w : World) (cb : Nat) (hn : n₀ = w0.heap.size) (hT : T.In w0) (hz : T.siz ≤ 900000) (HZ : ∀ u ∈ T.all, ∀ W, u.x.In W → Calls Tryz.prog 82 #[u.x.val] W (BoolRO u.x.bar W))
    (hw : Below n₀ w0 w) (hBw : B ≤ w.heap.size) (hc : w.heap[cb]? = some (.cells #[.int .u8 T.k, .string T.f, .string T.t, .string T.n, .int .u8 T.x.k, .string T.x.r, .string T.x.n, .int .i64 T.x.d, .slice T.x.A T.x.sub.length T.x.c, .int .i64 T.d, .slice T.DA T.dl.length T.dc, .slice T.A T.sub.length T.c] 32 (0, 0))) :
    Hands Fence.wide Tryz.prog 89 #[.pointer (some ⟨cb, 0, none⟩)] encL n₀ B (T.lev 1) w := by
  intro n l J Jx W hW hl hlW hJ hJx hY h0
  have hcb := lt_of_block hc
  have hb1 : Below W.heap.size W (W.alloc (.cells #[.func (.yield l) #[] #[]] 81)) := (Below.refl _ W).alloc (Nat.le_refl _) _
  have by1 := Boxed.new W 81 (.func (.yield l) #[] #[])
  have hcW := (hb1.block _ (by have := hW.size; omega)).trans ((hW.block _ hcb).trans hc)
  have hwW : Below n₀ w0 W := hw.trans (hW.mono (by rw [hn] at hw ⊢; exact hw.size))
  obtain ⟨W1, hW1⟩ : ∃ W1, W.alloc (.cells #[.func (.yield l) #[] #[]] 81) = W1 := ⟨_, rfl⟩
  rw [hW1] at hb1 by1 hcW
  have hs1 : W1.heap.size = W.heap.size + 1 := by rw [← hW1]; simp
  obtain ⟨c0, c1, c2, c3, c4, c5, c6, c7, c8, c9, c10, c11⟩ := (Ct.Box.of_block (T := T) hcW)
  have HC := Lib.hid (contracts_any T W1)
  have HY := Lib.hid hY
  have HJ := Lib.hid hJ
  have HX := Lib.hid hJx
  have H0 := Lib.hid (ownb9 hJ h0 hb1)
  have HZH := Lib.hid HZ
  clear hY hJ hJx h0 HZ hcW
  show CallsIn Fence.wide n Tryz.prog 89 #[.func (.yield l) #[] #[], .pointer (some ⟨cb, 0, none⟩)] W _
  refine callsIn_of_wp_marks Tryz.func89 rfl trivial ?_ rfl
  simp only [Tryz.ntmps89, List.size_toArray, List.length_cons, List.length_nil, Nat.reduceAdd, Nat.reduceSub, Array.replicate_succ, Array.replicate_zero, List.push_toArray, List.append_toArray, List.nil_append, List.cons_append]
  gi_wp2_with (refine ⟨trivial, wideD _, ?_⟩; gi_at_call 45; refine (callsIn_wide.2 HC.out).mono ?_; rintro e W2 ⟨bb, rb, rfl, hN, hb2⟩)
  have hn0 : n₀ ≤ W.heap.size := by have := hwW.size; omega
  obtain ⟨B', hB1, hB2, hB3, hB4⟩ : ∃ B', B ≤ B' ∧ l + 1 ≤ B' ∧ B' ≤ W.heap.size ∧ ∀ X Y, Step n₀ B (some l) X Y → Step n₀ B' none X Y :=
    ⟨max B (l + 1), by omega, by omega, by have := hW.size; omega, fun X Y h => h.ofX⟩
  have hS12 : Below W.heap.size W W2 := hb1.trans (hb2.mono hb1.size)
  have hn2 : W.heap.size ≤ W2.heap.size := hS12.size
  have by2 : Boxed W2 W.heap.size 81 (.func (.yield l) #[] #[]) := (hb2.block _ by1.lt).trans by1
  have hw2 : Below n₀ w0 W2 := hwW.trans (hS12.mono hn0)
  have hN' : NodC B' T bb rb W2 := hN.mono (by omega)
  have hwT := hT
  clear c0 c1 c2 c3 c4 c5 c6 c7 c8 c9 c10 c11 hW1
  refine wpIn_hands (F := Fence.wide) rfl rfl (gf := 97) (lb := #[.pointer (some ⟨bb, 0, none⟩), .pointer (some ⟨rb, 0, none⟩)]) rfl trivial (enters_of Tryz.func97 (by kernel_rfl) rfl)
    (handsC n₀ B' T w0 W2 bb rb hn hT hz hw2 hN') (Below.refl _ _) (by omega) (by omega) (fun _ => rfl)
    (fun pre X => (J (pre.flatMap Ct.lv1) X ∧ Boxed X W.heap.size 81 (.func (.yield l) #[] #[])) ∧ Step n₀ B (some l) W X)
    (fun c pre X => c = .ret ∧ ∃ q, q <+: T.lev 1 ∧ Jx q X)
    (OwnFrom.and (OwnFrom.and (ownp9 (ownm9 HJ.out (by omega)) (fun pre : List (Nat × Ct) => pre.flatMap Ct.lv1)) (Own.from (boxed_own _ _ _) _)) (owns9 (by omega) hn0))
    (fun c s X Y row ⟨h1, q, h2, h3⟩ hg hr => ⟨h1, q, h2, (ownm9 HX.out (by omega)) q X Y row h3 hg hr⟩)
    ⟨⟨ownb9 HJ.out H0.out hb2, by2⟩, Step.of_below hS12 hn0⟩
    (fun x a' X => ∃ Lb Nb, W.heap.size < Lb ∧ W.heap.size < Nb ∧ Boxed X Lb 3 (.int .i64 x.1) ∧ X.heap[Nb]? = some (.cells #[.int .u8 x.2.k, .string x.2.f, .string x.2.t, .string x.2.n, .int .u8 x.2.x.k, .string x.2.x.r, .string x.2.x.n, .int .i64 x.2.x.d, .slice x.2.x.A x.2.x.sub.length x.2.x.c, .int .i64 x.2.d, .slice x.2.DA x.2.dl.length x.2.dc, .slice x.2.A x.2.sub.length x.2.c] 32 (0, 0)) ∧ a' = { tmps := #[.func (.yield l) #[] #[], .pointer (some ⟨cb, 0, none⟩), .pointer (some ⟨W.heap.size, 0, none⟩), .pointer (some ⟨Lb, 0, none⟩), .pointer (some ⟨Nb, 0, none⟩), undef, .agg #[.int .u8 T.k, .string T.f, .string T.t, .string T.n, .int .u8 T.x.k, .string T.x.r, .string T.x.n, .int .i64 T.x.d, .slice T.x.A T.x.sub.length T.x.c, .int .i64 T.d, .slice T.DA T.dl.length T.dc, .slice T.A T.sub.length T.c], .func (.func 97) #[] #[.pointer (some ⟨bb, 0, none⟩), .pointer (some ⟨rb, 0, none⟩)], .int .i64 x.1, x.2.val, undef, undef, undef, undef, undef, undef, undef, undef, undef, undef, undef, undef, undef, undef, undef], defers := [] })
    (fun x a' _ X Y row hs hg hr => by
      obtain ⟨Lb, Nb, h1, h2, h3, h4, h5⟩ := hs
      exact ⟨Lb, Nb, h1, h2, boxed_own Lb 3 (fun (_ : Unit) => Value.int .i64 x.1) () X Y row h3 hg (fun r e => (hr r e).2), blk9_own (β := Unit) W2.heap.size Nb _ _ () X Y row h4 hg hr, h5⟩)
    ?assign ?body ?done ?stop
  case assign =>
    rintro l1 pre ⟨L, t⟩ X K ⟨⟨hj, hy⟩, hs⟩ hnX hK
    have hlt := hy.lt
    gi_wp2
    have g1 : Below X.heap.size X ((X.alloc (.cells #[.int .i64 L] 3)).alloc (.cells #[.int .u8 t.k, .string t.f, .string t.t, .string t.n, .int .u8 t.x.k, .string t.x.r, .string t.x.n, .int .i64 t.x.d, .slice t.x.A t.x.sub.length t.x.c, .int .i64 t.d, .slice t.DA t.dl.length t.dc, .slice t.A t.sub.length t.c] 32)) := ((Below.refl _ X).alloc (Nat.le_refl _) _).alloc (by simp) _
    have g2 := heap_alloc_new (X.alloc (.cells #[.int .i64 L] 3)) (.cells #[.int .u8 t.k, .string t.f, .string t.t, .string t.n, .int .u8 t.x.k, .string t.x.r, .string t.x.n, .int .i64 t.x.d, .slice t.x.A t.x.sub.length t.x.c, .int .i64 t.d, .slice t.DA t.dl.length t.dc, .slice t.A t.sub.length t.c] 32)
    rw [World.size_alloc] at g2
    exact hK _ _ (Step.of_below g1 hnX) ⟨⟨ownb9 HJ.out hj g1, (hy.alloc _).alloc _⟩, hs.trans (Step.of_below g1 hnX)⟩ ⟨X.heap.size, X.heap.size + 1, hlt, by omega, (Boxed.new X _ _).alloc _, g2, rfl⟩
  case body =>
    rintro l1 pre ⟨L, t⟩ a' X hl1 ⟨r, hr⟩ ⟨⟨hj, hy⟩, hs⟩ ⟨Lb, Nb, hLb, hNb, bL, bN, rfl⟩ hpre
    have ht : t ∈ T.all := Ct.nod_mem (L := 1) (p := (L, t)) (hpre.subset (by simp))
    have htI := hT.all ht
    have hpre2 := Ct.lev_pre hpre
    rw [Ct.lv1_eq] at hpre2
    have hpre2 : pre.flatMap Ct.lv1 ++ L :: t.x.lst.map (fun q => L + q.1) <+: T.lev 1 := hpre2
    have hwX : Below n₀ w0 X := hwW.trans hs.below
    have hnX : W.heap.size ≤ X.heap.size := hs.below.size
    have cN4 : X.cell? ⟨Nb, 4, none⟩ = some (.int .u8 t.x.k) := blk_cell bN rfl
    have hbig : ∀ v ∈ T.lev 1, v ≤ 900000 := fun v hv => Nat.le_trans ((Ct.lev_le T 1 T.dep).2 (by omega) v hv) (Nat.le_trans (Ct.dep_le_siz T) hz)
    have hy1 : YieldAt (Fence.wide.inRound l1) (n - 1) Tryz.prog l #[.int .i64 L] X fun e Y =>
        (e = .returned (.bool true) ∧ Hid (J (pre.flatMap Ct.lv1 ++ [L]) Y) ∧ Hid (Step n₀ B (some l) X Y) ∧ Y.cell? ⟨Nb, 4, none⟩ = some (.int .u8 t.x.k) ∧ Y.cell? ⟨Nb, 5, none⟩ = some (.string t.x.r) ∧ Y.cell? ⟨Nb, 6, none⟩ = some (.string t.x.n) ∧ Y.cell? ⟨Nb, 7, none⟩ = some (.int .i64 t.x.d) ∧ Y.cell? ⟨Nb, 8, none⟩ = some (.slice t.x.A t.x.sub.length t.x.c)) ∨
        (e = .returned (.bool false) ∧ Hid (Jx (pre.flatMap Ct.lv1 ++ [L]) Y) ∧ Hid (Step n₀ B (some l) X Y)) :=
      YieldAt.mono (HY.out (n - 1) (pre.flatMap Ct.lv1) L X (List.IsPrefix.trans ⟨t.x.lst.map (fun q => L + q.1), by simp⟩ hpre2) hj) fun e Y h => by
        obtain ⟨h1 | h1, h2⟩ := h
        · have hb := h2.same (k := Nb) (by omega) (fun e => by injection e; omega) (ne_str (by decide)) bN
          exact .inl ⟨h1.1, h1.2, h2, blk_cell hb rfl, blk_cell hb rfl, blk_cell hb rfl, blk_cell hb rfl, blk_cell hb rfl⟩
        · exact .inr ⟨h1.1, h1.2, h2⟩
    obtain ⟨fn, tmps, assign, bodyc, hyr, hR⟩ := hy1
    have hyc := hy.cell
    have bLc := bL.cell
    have HE := Lib.hid (fun (Y : World) (hb : Below n₀ w0 Y) => exprs_any t.x Y (HZH.out t ht _ (htI.ex.below (by rw [← hn]; exact hb.alloc (by rw [hn] at hb ⊢; exact hb.size) _))))
    have HP := Lib.hid hpre2
    have HTI := Lib.hid htI
    have HB := Lib.hid hbig
    have HTZ := Lib.hid (Nat.le_trans (Ct.all_siz ht) hz)
    have HR := Lib.hid hr
    have HJ1 := Lib.hid hj
    have HS := Lib.hid hs
    have HWX := Lib.hid hwX
    clear hpre hpre2 htI hbig hr hj hs hwX cN4
    gi_wp2_with (first
      | (refine ⟨wideD _, ?_⟩; refine hR.mono ?_; clear hR; rintro e Y (⟨rfl, hj2, hs2, e4, e5, e6, e7, e8⟩ | ⟨rfl, hx2, hs2⟩))
      | (refine ⟨trivial, wideD _, ?_⟩; gi_at_call 48; refine (CallsIn.inRound l1 (callsIn_wide.2 (HE.out _ (HWX.out.trans hs2.out.below)))).mono ?_; rintro e Y3 ⟨g, lb, rfl, eg, hb3, hH⟩))
    · have hr3 : Y3.heap[l1]? = some (.loop r) := (hb3.block _ (lt_of_block (hs2.out.same (by omega) (fun e => by injection e; omega) (fun _ _ e => by cases e) HR.out))).trans (hs2.out.same (by omega) (fun e => by injection e; omega) (fun _ _ e => by cases e) HR.out)
      have hwY : Below n₀ w0 Y := HWX.out.trans hs2.out.below
      have hnY : X.heap.size ≤ Y.heap.size := hs2.out.below.size
      have hn3 : Y.heap.size ≤ Y3.heap.size := hb3.size
      have hs3 : Step n₀ B (some l) X Y3 := hs2.out.trans (Step.of_below hb3 (by omega))
      refine wpIn_hands_round (F := Fence.wide.inRound l1) rfl (l₀ := l1) (r₀ := r) rfl hr3 (gf := g) (lb := lb) rfl trivial eg ((hH n₀ B' w0 hn HTI.out.ex HTZ.out hwY (by omega)).inRound l1) (Below.refl _ _) (by omega) (by omega) (fun _ => rfl)
        (fun pre2 Z => (J (pre.flatMap Ct.lv1 ++ L :: pre2.map (fun q => L + q.1)) Z ∧ Boxed Z W.heap.size 81 (.func (.yield l) #[] #[])) ∧ (Boxed Z Lb 3 (.int .i64 L) ∧ Step n₀ B (some l) X Z))
        (fun c pre2 Z => (c = .ret ∧ ∃ q, q <+: T.lev 1 ∧ Jx q Z) ∧ Step n₀ B (some l) X Z)
        (OwnFrom.and (OwnFrom.and (ownp9 (ownm9 HJ.out (by omega)) (fun pre2 : List (Nat × Ex) => pre.flatMap Ct.lv1 ++ L :: pre2.map (fun q => L + q.1))) (Own.from (boxed_own _ _ _) _)) (OwnFrom.and (Own.from (boxed_own _ _ _) _) (owns9 (by omega) (by omega))))
        (fun c => OwnFrom.and (fun s X Y row ⟨h1, q, h2, h3⟩ hg hr => ⟨h1, q, h2, (ownm9 HX.out (by omega)) q X Y row h3 hg hr⟩) (owns9 (by omega) (by omega)))
        ⟨⟨ownb9 HJ.out hj2.out hb3, (hb3.block _ (hs2.out.boxed (by omega) (fun e => by injection e; omega) (by decide) hy).lt).trans (hs2.out.boxed (by omega) (fun e => by injection e; omega) (by decide) hy)⟩, (hb3.block _ (hs2.out.boxed (by omega) (fun e => by injection e; omega) (by decide) bL).lt).trans (hs2.out.boxed (by omega) (fun e => by injection e; omega) (by decide) bL), hs3⟩
        (fun q a2 _ => a2 = { tmps := #[.func (.yield l) #[] #[], .pointer (some ⟨cb, 0, none⟩), .pointer (some ⟨W.heap.size, 0, none⟩), .pointer (some ⟨Lb, 0, none⟩), .pointer (some ⟨Nb, 0, none⟩), .int .i64 q.1, .agg #[.int .u8 T.k, .string T.f, .string T.t, .string T.n, .int .u8 T.x.k, .string T.x.r, .string T.x.n, .int .i64 T.x.d, .slice T.x.A T.x.sub.length T.x.c, .int .i64 T.d, .slice T.DA T.dl.length T.dc, .slice T.A T.sub.length T.c], .func (.func 97) #[] #[.pointer (some ⟨bb, 0, none⟩), .pointer (some ⟨rb, 0, none⟩)], .int .i64 L, t.val, .func (.yield l) #[] #[], .int .i64 L, .bool true, .bool false, .pointer (some ⟨Nb, 4, none⟩), .agg #[.int .u8 t.x.k, .string t.x.r, .string t.x.n, .int .i64 t.x.d, .slice t.x.A t.x.sub.length t.x.c], .func (.func g) #[] lb, .int .i64 q.1, q.2.val, undef, undef, undef, undef, undef, undef], defers := [] })
        (fun _ _ _ _ _ _ hs _ _ => hs)
        ?assign2 ?body2 ?done2 ?stop2
      case assign2 =>
        rintro l2 pre2 ⟨f, y⟩ Z K hi hnZ hK
        gi_wp2
        exact hK _ _ (Step.refl _ _ _ _) hi rfl
      case body2 =>
        rintro l2 pre2 ⟨f, y⟩ a2 Z hl2 _ ⟨⟨hj4, hy4⟩, hL4, hs4⟩ rfl hpre4
        have hpm : pre.flatMap Ct.lv1 ++ L :: (pre2 ++ [(f, y)]).map (fun q => L + q.1) <+: T.lev 1 := List.IsPrefix.trans ((List.prefix_append_right_inj _).2 (List.cons_prefix_cons.2 ⟨rfl, List.IsPrefix.map _ hpre4⟩)) HP.out
        have e1 : (pre.flatMap Ct.lv1 ++ L :: pre2.map (fun q => L + q.1)) ++ [L + f] = pre.flatMap Ct.lv1 ++ L :: (pre2 ++ [(f, y)]).map (fun q => L + q.1) := by simp
        have hlf : L + f ≤ 900000 := HB.out _ (hpm.subset (by simp))
        have hwr : IntKind.i64.wrap ((L : Int) + (f : Int)) = (L : Int) + (f : Int) := by rw [IntKind.wrap_i64]; omega
        have hy5 : YieldAt ((Fence.wide.inRound l1).inRound l2) (n - 1) Tryz.prog l #[.int .i64 ((L : Int) + (f : Int))] Z fun e Y =>
            (e = .returned (.bool true) ∧ Hid (J (pre.flatMap Ct.lv1 ++ L :: (pre2 ++ [(f, y)]).map (fun q => L + q.1)) Y) ∧ Hid (Step n₀ B (some l) Z Y)) ∨
            (e = .returned (.bool false) ∧ Hid (∃ q, q <+: T.lev 1 ∧ Jx q Y) ∧ Hid (Step n₀ B (some l) Z Y)) := by
          have h0 := HY.out (n - 1) (pre.flatMap Ct.lv1 ++ L :: pre2.map (fun q => L + q.1)) (L + f) Z (by rw [e1]; exact hpm) hj4
          rw [e1] at h0
          refine YieldAt.mono h0 fun e Y h => ?_
          obtain ⟨h1 | h1, h2⟩ := h
          · exact .inl ⟨h1.1, h1.2, h2⟩
          · exact .inr ⟨h1.1, ⟨_, hpm, h1.2⟩, h2⟩
        obtain ⟨fn, tmps, assign, bodyc, hyr2, hR2⟩ := hy5
        have hyc4 := hy4.cell
        have bLc4 := hL4.cell
        have HS4 := Lib.hid hs4
        clear hpm e1 hlf hs4 hj4 hpre4 hyr hyc bLc
        gi_wp2_with (refine ⟨wideD _, ?_⟩; refine hR2.mono ?_; clear hR2; rintro e Y5 (⟨rfl, hj5, hs5⟩ | ⟨rfl, hx5, hs5⟩))
        · exact ⟨hB4 _ _ hs5.out, ⟨hj5.out, hs5.out.boxed (by omega) (fun e => by injection e; omega) (by decide) hy4⟩, hs5.out.boxed (by omega) (fun e => by injection e; omega) (by decide) hL4, HS4.out.trans hs5.out⟩
        · exact ⟨hB4 _ _ hs5.out, ⟨rfl, hx5.out⟩, HS4.out.trans hs5.out⟩
      case done2 =>
        rintro Z ⟨⟨hj4, hy4⟩, hL4, hs4⟩
        gi_wp2
        exact ⟨hB4 _ _ hs4, ⟨by rw [List.flatMap_append]; simpa [Ct.lv1_eq] using hj4, hy4⟩, HS.out.trans hs4⟩
      case stop2 =>
        rintro c pre2 Z hp ⟨⟨rfl, hq⟩, hs4⟩
        gi_wp2
        exact ⟨hB4 _ _ hs4, rfl, hq⟩
    · exact ⟨hB4 _ _ hs2.out, rfl, _, List.IsPrefix.trans ⟨t.x.lst.map (fun q => L + q.1), by simp⟩ HP.out, hx2.out⟩
  case done =>
    rintro D X hD ⟨⟨hj, hy⟩, hs⟩ hK
    gi_wp2
    refine ⟨by simp, .inl ⟨_, _, rfl, run_takeDeferred hK, ?_⟩⟩
    exact ⟨_, results_none rfl _ _ _, ⟨_, rfl⟩, .inl (HJ.out.putObj _ hj (by omega) hK rfl)⟩
  case stop =>
    rintro D c pre X hD hp ⟨rfl, q, hq, hx⟩ hK
    gi_wp2
    refine ⟨by simp, .inl ⟨_, _, rfl, run_takeDeferred hK, ?_⟩⟩
    exact ⟨_, results_none rfl _ _ _, ⟨_, rfl⟩, .inr ⟨q, hq, HX.out.putObj _ hx (by omega) hK rfl⟩⟩
end Go.Proofs.YtalejbabhjlehaaGreatDoor
/- Layer 9: the program's fits, Size and Depth. -/
namespace Go.Proofs.YtalejbabhjlehaaGreatDoor
open Go Go.RowKit Go.Shelf
attribute [local go_sem] Oper.semAt_some
theorem results_cell1 {P : Program} {fn : Func} {p : Tmp} {ty : TypeId} (h : fn.results = #[.cell p ty]) (tmps : Array Value) (w : World) (g1 : Nat) (v : Value)
    (hp : tmps.getD p undef = .pointer (some ⟨g1, 0, none⟩)) (h1 : w.cell? ⟨g1, 0, none⟩ = some v)
    (ht : ∀ w, (isAgg ty).run P w = .ok false w) :
    (results fn tmps).run P w = .ok v w := by
  have hp' : tmps[p]?.getD undef = .pointer (some ⟨g1, 0, none⟩) := by simpa using hp
  simp [results, h, hp', asAddr, loadVar, Sem.run_bind, ht, Result.andThen, h1]
theorem bel_put {w X : World} {D : Nat} {o o' : Obj} (h : Below w.heap.size w X) (hD : w.heap.size ≤ D) (_ : X.heap[D]? = some o) : Below w.heap.size w (X.putObj D o') :=
  h.trans ((Below.refl _ X).grown (grownBy_putObj' X D o') h.size (fun k e => by cases e; exact hD))
set_option maxRecDepth 100000 in
set_option maxHeartbeats 1000000 in
theorem levels_any (T : Ct) (w : World) : Calls Tryz.prog 53 #[T.val] w fun e w' => e = .returned (.func (.func 89) #[] #[.pointer (some ⟨w.heap.size, 0, none⟩)]) ∧ w' = w.alloc (.cells #[.int .u8 T.k, .string T.f, .string T.t, .string T.n, .int .u8 T.x.k, .string T.x.r, .string T.x.n, .int .i64 T.x.d, .slice T.x.A T.x.sub.length T.x.c, .int .i64 T.d, .slice T.DA T.dl.length T.dc, .slice T.A T.sub.length T.c] 32) := by
  go_enter Tryz.func53, Tryz.ntmps53
  go_wp2_with (fail)
  go_ret
  exact ⟨rfl, rfl⟩
def ZeroOk (T : Ct) : Prop := ∀ u ∈ T.all, ∀ W, u.x.In W → Calls Tryz.prog 82 #[u.x.val] W (BoolRO u.x.bar W)
theorem Boxed.put {X : World} {b D : Nat} {t : TypeId} {v : Value} {o : Obj} (h : Boxed X b t v) (hne : D ≠ b) : Boxed (X.putObj D o) b t v := (World.putObj_heap_other (by omega)).trans h
theorem def_set {X : World} {b D : Nat} {v : Value} {o : Obj} (h : X.heap[D]? = some o) (hne : D ≠ b) : (X.setCell ⟨b, 0, none⟩ v).heap[D]? = some o := (Below.heap_setCell X ⟨b, 0, none⟩ _ D hne).trans h
theorem Ct.many_of {T : Ct} {pre : List Nat} {x : Nat} (h : pre ++ [x] <+: T.lev 1) (hx : 500 ≤ pre.length ∨ 60 < x) : T.many = true := by
  cases hm : T.many
  · obtain ⟨h1, h2⟩ := (Ct.many_iff T).1 hm
    rcases hx with hx | hx
    · have := h.length_le
      simp at this
      omega
    · have := h2 x (h.subset (by simp))
      omega
  · rfl
set_option maxRecDepth 100000 in
set_option maxHeartbeats 4000000 in
theorem cfits_any (T : Ct) (w : World) (hT : T.In w) (hz : T.siz ≤ 900000) (HZ : ZeroOk T) :
    Calls Tryz.prog 44 #[T.val] w (BoolRO (!T.many) w) := by
  refine (callsIn_wide (n := 3)).1 ?_
  have HL := Lib.hid (levels_any T)
  have HT := Lib.hid hT
  have HZH := Lib.hid HZ
  show CallsIn Fence.wide 3 Tryz.prog 44 #[.agg #[.int .u8 T.k, .string T.f, .string T.t, .string T.n, .int .u8 T.x.k, .string T.x.r, .string T.x.n, .int .i64 T.x.d, .slice T.x.A T.x.sub.length T.x.c, .int .i64 T.d, .slice T.DA T.dl.length T.dc, .slice T.A T.sub.length T.c]] w _
  clear hT HZ
  have bx := Ct.Box.new w T 32
  obtain ⟨c0, c1, c2, c3, c4, c5, c6, c7, c8, c9, c10, c11⟩ := bx
  refine callsIn_of_wp_marks Tryz.func44 rfl trivial ?_ rfl
  simp only [Tryz.ntmps44, List.size_toArray, List.length_cons, List.length_nil, Nat.reduceAdd, Nat.reduceSub, Array.replicate_succ, Array.replicate_zero, List.push_toArray, List.append_toArray, List.nil_append, List.cons_append]
  gi_wp2_with (refine ⟨trivial, ?_⟩; gi_at_call 53; refine (callsIn_wide.2 (HL.out _)).mono ?_; rintro e w2 ⟨rfl, rfl⟩)
  clear c0 c1 c2 c3 c4 c5 c6 c7 c8 c9 c10 c11
  have hc := heap_alloc_new (((w.alloc (.cells #[.int .u8 T.k, .string T.f, .string T.t, .string T.n, .int .u8 T.x.k, .string T.x.r, .string T.x.n, .int .i64 T.x.d, .slice T.x.A T.x.sub.length T.x.c, .int .i64 T.d, .slice T.DA T.dl.length T.dc, .slice T.A T.sub.length T.c] 32)).alloc (.cells #[.bool false] 4)).alloc (.cells #[.int .i64 500] 3)) (.cells #[.int .u8 T.k, .string T.f, .string T.t, .string T.n, .int .u8 T.x.k, .string T.x.r, .string T.x.n, .int .i64 T.x.d, .slice T.x.A T.x.sub.length T.x.c, .int .i64 T.d, .slice T.DA T.dl.length T.dc, .slice T.A T.sub.length T.c] 32)
  have b0 := ((Boxed.new (w.alloc (.cells #[.int .u8 T.k, .string T.f, .string T.t, .string T.n, .int .u8 T.x.k, .string T.x.r, .string T.x.n, .int .i64 T.x.d, .slice T.x.A T.x.sub.length T.x.c, .int .i64 T.d, .slice T.DA T.dl.length T.dc, .slice T.A T.sub.length T.c] 32)) 4 (.bool false)).alloc (.cells #[.int .i64 500] 3)).alloc (.cells #[.int .u8 T.k, .string T.f, .string T.t, .string T.n, .int .u8 T.x.k, .string T.x.r, .string T.x.n, .int .i64 T.x.d, .slice T.x.A T.x.sub.length T.x.c, .int .i64 T.d, .slice T.DA T.dl.length T.dc, .slice T.A T.sub.length T.c] 32)
  have b1 := (Boxed.new ((w.alloc (.cells #[.int .u8 T.k, .string T.f, .string T.t, .string T.n, .int .u8 T.x.k, .string T.x.r, .string T.x.n, .int .i64 T.x.d, .slice T.x.A T.x.sub.length T.x.c, .int .i64 T.d, .slice T.DA T.dl.length T.dc, .slice T.A T.sub.length T.c] 32)).alloc (.cells #[.bool false] 4)) 3 (.int .i64 500)).alloc (.cells #[.int .u8 T.k, .string T.f, .string T.t, .string T.n, .int .u8 T.x.k, .string T.x.r, .string T.x.n, .int .i64 T.x.d, .slice T.x.A T.x.sub.length T.x.c, .int .i64 T.d, .slice T.DA T.dl.length T.dc, .slice T.A T.sub.length T.c] 32)
  simp only [World.size_alloc] at hc b0 b1
  have hbL : Below w.heap.size w ((((w.alloc (.cells #[.int .u8 T.k, .string T.f, .string T.t, .string T.n, .int .u8 T.x.k, .string T.x.r, .string T.x.n, .int .i64 T.x.d, .slice T.x.A T.x.sub.length T.x.c, .int .i64 T.d, .slice T.DA T.dl.length T.dc, .slice T.A T.sub.length T.c] 32)).alloc (.cells #[.bool false] 4)).alloc (.cells #[.int .i64 500] 3)).alloc (.cells #[.int .u8 T.k, .string T.f, .string T.t, .string T.n, .int .u8 T.x.k, .string T.x.r, .string T.x.n, .int .i64 T.x.d, .slice T.x.A T.x.sub.length T.x.c, .int .i64 T.d, .slice T.DA T.dl.length T.dc, .slice T.A T.sub.length T.c] 32)) := (((((Below.refl _ w).alloc (Nat.le_refl _) _).alloc (by simp) _).alloc (by simp; omega) _).alloc (by simp; omega) _)
  have hsz : ((((w.alloc (.cells #[.int .u8 T.k, .string T.f, .string T.t, .string T.n, .int .u8 T.x.k, .string T.x.r, .string T.x.n, .int .i64 T.x.d, .slice T.x.A T.x.sub.length T.x.c, .int .i64 T.d, .slice T.DA T.dl.length T.dc, .slice T.A T.sub.length T.c] 32)).alloc (.cells #[.bool false] 4)).alloc (.cells #[.int .i64 500] 3)).alloc (.cells #[.int .u8 T.k, .string T.f, .string T.t, .string T.n, .int .u8 T.x.k, .string T.x.r, .string T.x.n, .int .i64 T.x.d, .slice T.x.A T.x.sub.length T.x.c, .int .i64 T.d, .slice T.DA T.dl.length T.dc, .slice T.A T.sub.length T.c] 32)).heap.size = w.heap.size + 4 := by simp
  generalize ((((w.alloc (.cells #[.int .u8 T.k, .string T.f, .string T.t, .string T.n, .int .u8 T.x.k, .string T.x.r, .string T.x.n, .int .i64 T.x.d, .slice T.x.A T.x.sub.length T.x.c, .int .i64 T.d, .slice T.DA T.dl.length T.dc, .slice T.A T.sub.length T.c] 32)).alloc (.cells #[.bool false] 4)).alloc (.cells #[.int .i64 500] 3)).alloc (.cells #[.int .u8 T.k, .string T.f, .string T.t, .string T.n, .int .u8 T.x.k, .string T.x.r, .string T.x.n, .int .i64 T.x.d, .slice T.x.A T.x.sub.length T.x.c, .int .i64 T.d, .slice T.DA T.dl.length T.dc, .slice T.A T.sub.length T.c] 32)) = WL at *
  try simp only [World.size_alloc]
  refine wpIn_hands (F := Fence.wide) rfl rfl (gf := 89) (lb := #[.pointer (some ⟨w.heap.size + 1 + 1 + 1, 0, none⟩)]) rfl trivial (enters_of Tryz.func89 (by kernel_rfl) rfl)
    (handsL w.heap.size (w.heap.size + 3) T w WL (w.heap.size + 1 + 1 + 1) rfl HT.out hz HZH.out hbL (by omega) hc) (Below.refl _ _) (by omega) (by omega) (fun _ => rfl)
    (fun pre X => (Boxed X (w.heap.size + 1 + 1) 3 (.int .i64 (500 - (pre.length : Int))) ∧ Boxed X (w.heap.size + 1) 4 (.bool false)) ∧ (Below w.heap.size w X ∧ (pre.length ≤ 500 ∧ ∀ v ∈ pre, v ≤ 60)))
    (fun c pre X => (c = .ret ∧ T.many = true) ∧ (Boxed X (w.heap.size + 1) 4 (.bool false) ∧ Below w.heap.size w X))
    (OwnFrom.and (OwnFrom.and (Own.from (boxed_own _ _ _) _) (Own.from (boxed_own _ _ _) _)) (OwnFrom.and (ownFrom_below (Nat.le_refl _) (by omega)) (ownFrom_pure _ _)))
    (fun c => OwnFrom.and (ownFrom_pure _ (fun _ => c = .ret ∧ T.many = true)) (OwnFrom.and (Own.from (boxed_own _ _ _) _) (ownFrom_below (Nat.le_refl _) (by omega))))
    (⟨⟨b1, b0⟩, hbL, Nat.zero_le _, fun v hv => by simp at hv⟩)
    (fun x a' _ => a' = { tmps := #[.agg #[.int .u8 T.k, .string T.f, .string T.t, .string T.n, .int .u8 T.x.k, .string T.x.r, .string T.x.n, .int .i64 T.x.d, .slice T.x.A T.x.sub.length T.x.c, .int .i64 T.d, .slice T.DA T.dl.length T.dc, .slice T.A T.sub.length T.c], .pointer (some ⟨w.heap.size, 0, none⟩), .pointer (some ⟨w.heap.size + 1, 0, none⟩), .pointer (some ⟨w.heap.size + 1 + 1, 0, none⟩), .int .i64 x, .agg #[.int .u8 T.k, .string T.f, .string T.t, .string T.n, .int .u8 T.x.k, .string T.x.r, .string T.x.n, .int .i64 T.x.d, .slice T.x.A T.x.sub.length T.x.c, .int .i64 T.d, .slice T.DA T.dl.length T.dc, .slice T.A T.sub.length T.c], .func (.func 89) #[] #[.pointer (some ⟨w.heap.size + 1 + 1 + 1, 0, none⟩)], .int .i64 x, undef, undef, undef, undef, undef, undef, undef, undef], defers := [] })
    (fun _ _ _ _ _ _ hs _ _ => hs)
    ?assign ?body ?done ?stop
  case assign =>
    rintro l pre x X K hi hn hK
    gi_wp2
    first
      | exact hK _ _ (Step.refl _ _ _ _) hi rfl
      | (refine hK _ _ (Step.refl _ _ _ _) hi ?_; simp)
  case body =>
    rintro l pre x a' X hl _ ⟨⟨bM, bR⟩, hB, hlen, hle⟩ rfl hpre
    obtain ⟨m, hm⟩ : ∃ m : Int, 500 - (pre.length : Int) = m := ⟨_, rfl⟩
    rw [hm] at bM
    have hm0 : 0 ≤ m := by omega
    have hm1 : m ≤ 500 := by omega
    have cM := bM.cell
    have fM := bM.frozen
    have cR := bR.cell
    have fR := bR.frozen
    have hnX := hB.size
    have HM := Lib.hid (fun (h : 500 ≤ pre.length ∨ 60 < x) => Ct.many_of hpre h)
    have HLE := Lib.hid hle
    have HLN := Lib.hid hm
    clear hle hm hpre
    have hs1 : Step w.heap.size (w.heap.size + 3) none X (X.setCell ⟨w.heap.size + 1 + 1, 0, none⟩ (.int .i64 (m - 1))) := Step.setCell (p := ⟨w.heap.size + 1 + 1, 0, none⟩) (by show w.heap.size ≤ w.heap.size + 1 + 1; omega) (by show w.heap.size + 1 + 1 < _; omega) _
    have HS1 := Lib.hid hs1
    clear hs1
    by_cases h1 : m = 0
    · subst h1
      gi_wp2
      exact ⟨HS1.out.trans (Step.setCell (p := ⟨w.heap.size + 1, 0, none⟩) (by show w.heap.size ≤ w.heap.size + 1; omega) (by show w.heap.size + 1 < _; omega) _), ⟨rfl, HM.out (.inl (by have := HLN.out; omega))⟩, (bR.other (by omega) _).set _, (hB.setCell (p := ⟨w.heap.size + 1 + 1, 0, none⟩) (by show w.heap.size ≤ w.heap.size + 1 + 1; omega) _).setCell (p := ⟨w.heap.size + 1, 0, none⟩) (by show w.heap.size ≤ w.heap.size + 1; omega) _⟩
    · have h1' : 1 ≤ m := by omega
      by_cases h2 : 60 < x
      · gi_wp2
        exact ⟨HS1.out.trans (Step.setCell (p := ⟨w.heap.size + 1, 0, none⟩) (by show w.heap.size ≤ w.heap.size + 1; omega) (by show w.heap.size + 1 < _; omega) _), ⟨rfl, HM.out (.inr h2)⟩, (bR.other (by omega) _).set _, (hB.setCell (p := ⟨w.heap.size + 1 + 1, 0, none⟩) (by show w.heap.size ≤ w.heap.size + 1 + 1; omega) _).setCell (p := ⟨w.heap.size + 1, 0, none⟩) (by show w.heap.size ≤ w.heap.size + 1; omega) _⟩
      · gi_wp2
        refine ⟨HS1.out, ⟨?_, bR.other (by omega) _⟩, hB.setCell (p := ⟨w.heap.size + 1 + 1, 0, none⟩) (by show w.heap.size ≤ w.heap.size + 1 + 1; omega) _, by have := HLN.out; simp; omega, fun v hv => ?_⟩
        · have := bM.set (.int .i64 (m - 1))
          rw [show (500 - ((pre ++ [x]).length : Int)) = m - 1 by have := HLN.out; simp; omega]
          exact this
        · rcases List.mem_append.1 hv with hv | hv
          · exact HLE.out v hv
          · simp at hv; omega
  case done =>
    rintro D X hD ⟨⟨bM, bR⟩, hB, hlen, hle⟩ hK
    have cR := bR.cell
    have fR := bR.frozen
    have HM := Lib.hid ((Ct.many_iff T).2 ⟨hlen, hle⟩)
    clear hlen hle
    gi_wp2
    refine ⟨by simp, .inl ⟨_, _, rfl, run_takeDeferred (def_set hK (by omega)), ?_⟩⟩
    exact ⟨_, results_cell1 rfl _ _ (w.heap.size + 1) (.bool true) rfl ((Boxed.put (bR.set _) (by omega)).cell) Tryz.isAgg4, by rw [HM.out]; rfl, bel_put (hB.setCell (p := ⟨w.heap.size + 1, 0, none⟩) (by show w.heap.size ≤ w.heap.size + 1; omega) _) (by omega) (def_set hK (by omega))⟩
  case stop =>
    rintro D c pre X hD hp ⟨⟨rfl, hm⟩, bR, hB⟩ hK
    have HM := Lib.hid hm
    clear hm
    gi_wp2
    refine ⟨by simp, .inl ⟨_, _, rfl, run_takeDeferred hK, ?_⟩⟩
    exact ⟨_, results_cell1 rfl _ _ (w.heap.size + 1) (.bool false) rfl ((Boxed.put bR (by omega)).cell) Tryz.isAgg4, by rw [HM.out]; rfl, bel_put hB (by omega) hK⟩
set_option maxRecDepth 100000 in
set_option maxHeartbeats 4000000 in
theorem csize_any (T : Ct) (w : World) (hT : T.In w) (hz : T.siz ≤ 900000) (HZ : ZeroOk T) :
    Calls Tryz.prog 20 #[T.val] w (IntRO T.siz w) := by
  refine (callsIn_wide (n := 3)).1 ?_
  have HL := Lib.hid (levels_any T)
  have HT := Lib.hid hT
  have HZH := Lib.hid HZ
  show CallsIn Fence.wide 3 Tryz.prog 20 #[.agg #[.int .u8 T.k, .string T.f, .string T.t, .string T.n, .int .u8 T.x.k, .string T.x.r, .string T.x.n, .int .i64 T.x.d, .slice T.x.A T.x.sub.length T.x.c, .int .i64 T.d, .slice T.DA T.dl.length T.dc, .slice T.A T.sub.length T.c]] w _
  clear hT HZ
  have bx := Ct.Box.new w T 32
  obtain ⟨c0, c1, c2, c3, c4, c5, c6, c7, c8, c9, c10, c11⟩ := bx
  refine callsIn_of_wp_marks Tryz.func20 rfl trivial ?_ rfl
  simp only [Tryz.ntmps20, List.size_toArray, List.length_cons, List.length_nil, Nat.reduceAdd, Nat.reduceSub, Array.replicate_succ, Array.replicate_zero, List.push_toArray, List.append_toArray, List.nil_append, List.cons_append]
  gi_wp2_with (refine ⟨trivial, ?_⟩; gi_at_call 53; refine (callsIn_wide.2 (HL.out _)).mono ?_; rintro e w2 ⟨rfl, rfl⟩)
  clear c0 c1 c2 c3 c4 c5 c6 c7 c8 c9 c10 c11
  have hc := heap_alloc_new ((w.alloc (.cells #[.int .u8 T.k, .string T.f, .string T.t, .string T.n, .int .u8 T.x.k, .string T.x.r, .string T.x.n, .int .i64 T.x.d, .slice T.x.A T.x.sub.length T.x.c, .int .i64 T.d, .slice T.DA T.dl.length T.dc, .slice T.A T.sub.length T.c] 32)).alloc (.cells #[.int .i64 0] 3)) (.cells #[.int .u8 T.k, .string T.f, .string T.t, .string T.n, .int .u8 T.x.k, .string T.x.r, .string T.x.n, .int .i64 T.x.d, .slice T.x.A T.x.sub.length T.x.c, .int .i64 T.d, .slice T.DA T.dl.length T.dc, .slice T.A T.sub.length T.c] 32)
  have b0 := (Boxed.new (w.alloc (.cells #[.int .u8 T.k, .string T.f, .string T.t, .string T.n, .int .u8 T.x.k, .string T.x.r, .string T.x.n, .int .i64 T.x.d, .slice T.x.A T.x.sub.length T.x.c, .int .i64 T.d, .slice T.DA T.dl.length T.dc, .slice T.A T.sub.length T.c] 32)) 3 (.int .i64 0)).alloc (.cells #[.int .u8 T.k, .string T.f, .string T.t, .string T.n, .int .u8 T.x.k, .string T.x.r, .string T.x.n, .int .i64 T.x.d, .slice T.x.A T.x.sub.length T.x.c, .int .i64 T.d, .slice T.DA T.dl.length T.dc, .slice T.A T.sub.length T.c] 32)
  simp only [World.size_alloc] at hc b0
  have hbL : Below w.heap.size w (((w.alloc (.cells #[.int .u8 T.k, .string T.f, .string T.t, .string T.n, .int .u8 T.x.k, .string T.x.r, .string T.x.n, .int .i64 T.x.d, .slice T.x.A T.x.sub.length T.x.c, .int .i64 T.d, .slice T.DA T.dl.length T.dc, .slice T.A T.sub.length T.c] 32)).alloc (.cells #[.int .i64 0] 3)).alloc (.cells #[.int .u8 T.k, .string T.f, .string T.t, .string T.n, .int .u8 T.x.k, .string T.x.r, .string T.x.n, .int .i64 T.x.d, .slice T.x.A T.x.sub.length T.x.c, .int .i64 T.d, .slice T.DA T.dl.length T.dc, .slice T.A T.sub.length T.c] 32)) := ((((Below.refl _ w).alloc (Nat.le_refl _) _).alloc (by simp) _).alloc (by simp; omega) _)
  have hsz : (((w.alloc (.cells #[.int .u8 T.k, .string T.f, .string T.t, .string T.n, .int .u8 T.x.k, .string T.x.r, .string T.x.n, .int .i64 T.x.d, .slice T.x.A T.x.sub.length T.x.c, .int .i64 T.d, .slice T.DA T.dl.length T.dc, .slice T.A T.sub.length T.c] 32)).alloc (.cells #[.int .i64 0] 3)).alloc (.cells #[.int .u8 T.k, .string T.f, .string T.t, .string T.n, .int .u8 T.x.k, .string T.x.r, .string T.x.n, .int .i64 T.x.d, .slice T.x.A T.x.sub.length T.x.c, .int .i64 T.d, .slice T.DA T.dl.length T.dc, .slice T.A T.sub.length T.c] 32)).heap.size = w.heap.size + 3 := by simp
  generalize (((w.alloc (.cells #[.int .u8 T.k, .string T.f, .string T.t, .string T.n, .int .u8 T.x.k, .string T.x.r, .string T.x.n, .int .i64 T.x.d, .slice T.x.A T.x.sub.length T.x.c, .int .i64 T.d, .slice T.DA T.dl.length T.dc, .slice T.A T.sub.length T.c] 32)).alloc (.cells #[.int .i64 0] 3)).alloc (.cells #[.int .u8 T.k, .string T.f, .string T.t, .string T.n, .int .u8 T.x.k, .string T.x.r, .string T.x.n, .int .i64 T.x.d, .slice T.x.A T.x.sub.length T.x.c, .int .i64 T.d, .slice T.DA T.dl.length T.dc, .slice T.A T.sub.length T.c] 32)) = WL at *
  try simp only [World.size_alloc]
  refine wpIn_hands (F := Fence.wide) rfl rfl (gf := 89) (lb := #[.pointer (some ⟨w.heap.size + 1 + 1, 0, none⟩)]) rfl trivial (enters_of Tryz.func89 (by kernel_rfl) rfl)
    (handsL w.heap.size (w.heap.size + 2) T w WL (w.heap.size + 1 + 1) rfl HT.out hz HZH.out hbL (by omega) hc) (Below.refl _ _) (by omega) (by omega) (fun _ => rfl)
    (fun pre X => Boxed X (w.heap.size + 1) 3 (.int .i64 (pre.length : Int)) ∧ Below w.heap.size w X)
    (fun c pre X => False)
    (OwnFrom.and (Own.from (boxed_own _ _ (fun pre : List Nat => Value.int .i64 (pre.length : Int))) _) (ownFrom_below (Nat.le_refl _) (by omega)))
    (fun c => ownFrom_pure _ (fun _ => False))
    (⟨b0, hbL⟩)
    (fun x a' _ => a' = { tmps := #[.agg #[.int .u8 T.k, .string T.f, .string T.t, .string T.n, .int .u8 T.x.k, .string T.x.r, .string T.x.n, .int .i64 T.x.d, .slice T.x.A T.x.sub.length T.x.c, .int .i64 T.d, .slice T.DA T.dl.length T.dc, .slice T.A T.sub.length T.c], .pointer (some ⟨w.heap.size, 0, none⟩), .int .i64 0, .pointer (some ⟨w.heap.size + 1, 0, none⟩), .agg #[.int .u8 T.k, .string T.f, .string T.t, .string T.n, .int .u8 T.x.k, .string T.x.r, .string T.x.n, .int .i64 T.x.d, .slice T.x.A T.x.sub.length T.x.c, .int .i64 T.d, .slice T.DA T.dl.length T.dc, .slice T.A T.sub.length T.c], .func (.func 89) #[] #[.pointer (some ⟨w.heap.size + 1 + 1, 0, none⟩)], .int .i64 x, undef, undef, undef], defers := [] })
    (fun _ _ _ _ _ _ hs _ _ => hs)
    ?assign ?body ?done ?stop
  case assign =>
    rintro l pre x X K hi hn hK
    gi_wp2
    first
      | exact hK _ _ (Step.refl _ _ _ _) hi rfl
      | (refine hK _ _ (Step.refl _ _ _ _) hi ?_; simp)
  case body =>
    rintro l pre x a' X hl _ ⟨bM, hB⟩ rfl hpre
    have hle : pre.length + 1 ≤ 900000 := (by have h1 := hpre.length_le; rw [Ct.lev_len] at h1; simp at h1; omega)
    obtain ⟨m, hm⟩ : ∃ m : Nat, pre.length = m := ⟨_, rfl⟩
    rw [hm] at bM hle
    have cM := bM.cell
    have fM := bM.frozen
    have hnX := hB.size
    have HLN := Lib.hid hm
    clear hm hpre
    gi_wp2
    refine ⟨Step.setCell (p := ⟨w.heap.size + 1, 0, none⟩) (by show w.heap.size ≤ w.heap.size + 1; omega) (by show w.heap.size + 1 < _; omega) _, ?_, hB.setCell (p := ⟨w.heap.size + 1, 0, none⟩) (by show w.heap.size ≤ w.heap.size + 1; omega) _⟩
    have h2 := bM.set (.int .i64 ((m : Int) + 1))
    rw [show ((pre ++ [x]).length : Int) = (m : Int) + 1 by have := HLN.out; simp; omega]
    exact h2
  case done =>
    rintro D X hD ⟨bM, hB⟩ hK
    rw [Ct.lev_len T 1] at bM
    have cM := bM.cell
    gi_wp2
    refine ⟨by simp, .inl ⟨_, _, rfl, run_takeDeferred hK, ?_⟩⟩
    exact ⟨_, results_tmp rfl _ _ _, rfl, bel_put hB (by omega) hK⟩
  case stop =>
    rintro D c pre X hD hp h hK
    exact h.elim
set_option maxRecDepth 100000 in
set_option maxHeartbeats 4000000 in
theorem cdepth_any (T : Ct) (w : World) (hT : T.In w) (hz : T.siz ≤ 900000) (HZ : ZeroOk T) :
    Calls Tryz.prog 22 #[T.val] w (IntRO T.dep w) := by
  refine (callsIn_wide (n := 3)).1 ?_
  have HL := Lib.hid (levels_any T)
  have HT := Lib.hid hT
  have HZH := Lib.hid HZ
  show CallsIn Fence.wide 3 Tryz.prog 22 #[.agg #[.int .u8 T.k, .string T.f, .string T.t, .string T.n, .int .u8 T.x.k, .string T.x.r, .string T.x.n, .int .i64 T.x.d, .slice T.x.A T.x.sub.length T.x.c, .int .i64 T.d, .slice T.DA T.dl.length T.dc, .slice T.A T.sub.length T.c]] w _
  clear hT HZ
  have bx := Ct.Box.new w T 32
  obtain ⟨c0, c1, c2, c3, c4, c5, c6, c7, c8, c9, c10, c11⟩ := bx
  refine callsIn_of_wp_marks Tryz.func22 rfl trivial ?_ rfl
  simp only [Tryz.ntmps22, List.size_toArray, List.length_cons, List.length_nil, Nat.reduceAdd, Nat.reduceSub, Array.replicate_succ, Array.replicate_zero, List.push_toArray, List.append_toArray, List.nil_append, List.cons_append]
  gi_wp2_with (refine ⟨trivial, ?_⟩; gi_at_call 53; refine (callsIn_wide.2 (HL.out _)).mono ?_; rintro e w2 ⟨rfl, rfl⟩)
  clear c0 c1 c2 c3 c4 c5 c6 c7 c8 c9 c10 c11
  have hc := heap_alloc_new ((w.alloc (.cells #[.int .u8 T.k, .string T.f, .string T.t, .string T.n, .int .u8 T.x.k, .string T.x.r, .string T.x.n, .int .i64 T.x.d, .slice T.x.A T.x.sub.length T.x.c, .int .i64 T.d, .slice T.DA T.dl.length T.dc, .slice T.A T.sub.length T.c] 32)).alloc (.cells #[.int .i64 0] 3)) (.cells #[.int .u8 T.k, .string T.f, .string T.t, .string T.n, .int .u8 T.x.k, .string T.x.r, .string T.x.n, .int .i64 T.x.d, .slice T.x.A T.x.sub.length T.x.c, .int .i64 T.d, .slice T.DA T.dl.length T.dc, .slice T.A T.sub.length T.c] 32)
  have b0 := (Boxed.new (w.alloc (.cells #[.int .u8 T.k, .string T.f, .string T.t, .string T.n, .int .u8 T.x.k, .string T.x.r, .string T.x.n, .int .i64 T.x.d, .slice T.x.A T.x.sub.length T.x.c, .int .i64 T.d, .slice T.DA T.dl.length T.dc, .slice T.A T.sub.length T.c] 32)) 3 (.int .i64 0)).alloc (.cells #[.int .u8 T.k, .string T.f, .string T.t, .string T.n, .int .u8 T.x.k, .string T.x.r, .string T.x.n, .int .i64 T.x.d, .slice T.x.A T.x.sub.length T.x.c, .int .i64 T.d, .slice T.DA T.dl.length T.dc, .slice T.A T.sub.length T.c] 32)
  simp only [World.size_alloc] at hc b0
  have hbL : Below w.heap.size w (((w.alloc (.cells #[.int .u8 T.k, .string T.f, .string T.t, .string T.n, .int .u8 T.x.k, .string T.x.r, .string T.x.n, .int .i64 T.x.d, .slice T.x.A T.x.sub.length T.x.c, .int .i64 T.d, .slice T.DA T.dl.length T.dc, .slice T.A T.sub.length T.c] 32)).alloc (.cells #[.int .i64 0] 3)).alloc (.cells #[.int .u8 T.k, .string T.f, .string T.t, .string T.n, .int .u8 T.x.k, .string T.x.r, .string T.x.n, .int .i64 T.x.d, .slice T.x.A T.x.sub.length T.x.c, .int .i64 T.d, .slice T.DA T.dl.length T.dc, .slice T.A T.sub.length T.c] 32)) := ((((Below.refl _ w).alloc (Nat.le_refl _) _).alloc (by simp) _).alloc (by simp; omega) _)
  have hsz : (((w.alloc (.cells #[.int .u8 T.k, .string T.f, .string T.t, .string T.n, .int .u8 T.x.k, .string T.x.r, .string T.x.n, .int .i64 T.x.d, .slice T.x.A T.x.sub.length T.x.c, .int .i64 T.d, .slice T.DA T.dl.length T.dc, .slice T.A T.sub.length T.c] 32)).alloc (.cells #[.int .i64 0] 3)).alloc (.cells #[.int .u8 T.k, .string T.f, .string T.t, .string T.n, .int .u8 T.x.k, .string T.x.r, .string T.x.n, .int .i64 T.x.d, .slice T.x.A T.x.sub.length T.x.c, .int .i64 T.d, .slice T.DA T.dl.length T.dc, .slice T.A T.sub.length T.c] 32)).heap.size = w.heap.size + 3 := by simp
  generalize (((w.alloc (.cells #[.int .u8 T.k, .string T.f, .string T.t, .string T.n, .int .u8 T.x.k, .string T.x.r, .string T.x.n, .int .i64 T.x.d, .slice T.x.A T.x.sub.length T.x.c, .int .i64 T.d, .slice T.DA T.dl.length T.dc, .slice T.A T.sub.length T.c] 32)).alloc (.cells #[.int .i64 0] 3)).alloc (.cells #[.int .u8 T.k, .string T.f, .string T.t, .string T.n, .int .u8 T.x.k, .string T.x.r, .string T.x.n, .int .i64 T.x.d, .slice T.x.A T.x.sub.length T.x.c, .int .i64 T.d, .slice T.DA T.dl.length T.dc, .slice T.A T.sub.length T.c] 32)) = WL at *
  try simp only [World.size_alloc]
  refine wpIn_hands (F := Fence.wide) rfl rfl (gf := 89) (lb := #[.pointer (some ⟨w.heap.size + 1 + 1, 0, none⟩)]) rfl trivial (enters_of Tryz.func89 (by kernel_rfl) rfl)
    (handsL w.heap.size (w.heap.size + 2) T w WL (w.heap.size + 1 + 1) rfl HT.out hz HZH.out hbL (by omega) hc) (Below.refl _ _) (by omega) (by omega) (fun _ => rfl)
    (fun pre X => Boxed X (w.heap.size + 1) 3 (.int .i64 ((pre.foldl max 0 : Nat) : Int)) ∧ Below w.heap.size w X)
    (fun c pre X => False)
    (OwnFrom.and (Own.from (boxed_own _ _ (fun pre : List Nat => Value.int .i64 ((pre.foldl max 0 : Nat) : Int))) _) (ownFrom_below (Nat.le_refl _) (by omega)))
    (fun c => ownFrom_pure _ (fun _ => False))
    (⟨b0, hbL⟩)
    (fun x a' _ => a' = { tmps := #[.agg #[.int .u8 T.k, .string T.f, .string T.t, .string T.n, .int .u8 T.x.k, .string T.x.r, .string T.x.n, .int .i64 T.x.d, .slice T.x.A T.x.sub.length T.x.c, .int .i64 T.d, .slice T.DA T.dl.length T.dc, .slice T.A T.sub.length T.c], .pointer (some ⟨w.heap.size, 0, none⟩), .int .i64 0, .pointer (some ⟨w.heap.size + 1, 0, none⟩), .int .i64 x, .agg #[.int .u8 T.k, .string T.f, .string T.t, .string T.n, .int .u8 T.x.k, .string T.x.r, .string T.x.n, .int .i64 T.x.d, .slice T.x.A T.x.sub.length T.x.c, .int .i64 T.d, .slice T.DA T.dl.length T.dc, .slice T.A T.sub.length T.c], .func (.func 89) #[] #[.pointer (some ⟨w.heap.size + 1 + 1, 0, none⟩)], .int .i64 x, undef, undef, undef, undef], defers := [] })
    (fun _ _ _ _ _ _ hs _ _ => hs)
    ?assign ?body ?done ?stop
  case assign =>
    rintro l pre x X K hi hn hK
    gi_wp2
    first
      | exact hK _ _ (Step.refl _ _ _ _) hi rfl
      | (refine hK _ _ (Step.refl _ _ _ _) hi ?_; simp)
  case body =>
    rintro l pre x a' X hl _ ⟨bM, hB⟩ rfl hpre
    have hle : pre.foldl max 0 ≤ 900000 ∧ x ≤ 900000 := (by have h1 := (Ct.lev_le T 1 T.dep).2 (by omega); have h2 := Ct.dep_le_siz T; exact ⟨(foldl_max_le _ _ _).2 ⟨by omega, fun v hv => Nat.le_trans (h1 v (hpre.subset (by simp [hv]))) (by omega)⟩, Nat.le_trans (h1 x (hpre.subset (by simp))) (by omega)⟩)
    obtain ⟨m, hm⟩ : ∃ m : Nat, pre.foldl max 0 = m := ⟨_, rfl⟩
    rw [hm] at bM hle
    have cM := bM.cell
    have fM := bM.frozen
    have hnX := hB.size
    have HLN := Lib.hid hm
    clear hm hpre
    by_cases hmx : m < x
    · have hq2 : max (m : Int) (x : Int) = (x : Int) := by omega
      have HQ := Lib.hid (show max m x = x by omega)
      gi_wp2
      refine ⟨Step.setCell (p := ⟨w.heap.size + 1, 0, none⟩) (by show w.heap.size ≤ w.heap.size + 1; omega) (by show w.heap.size + 1 < _; omega) _, ?_, hB.setCell (p := ⟨w.heap.size + 1, 0, none⟩) (by show w.heap.size ≤ w.heap.size + 1; omega) _⟩
      have h2 := bM.set (.int .i64 (x : Int))
      rw [show (pre ++ [x]).foldl max 0 = x by rw [List.foldl_append, HLN.out, List.foldl_cons, List.foldl_nil, HQ.out]]
      exact h2
    · have hq2 : max (m : Int) (x : Int) = (m : Int) := by omega
      have HQ := Lib.hid (show max m x = m by omega)
      gi_wp2
      refine ⟨Step.setCell (p := ⟨w.heap.size + 1, 0, none⟩) (by show w.heap.size ≤ w.heap.size + 1; omega) (by show w.heap.size + 1 < _; omega) _, ?_, hB.setCell (p := ⟨w.heap.size + 1, 0, none⟩) (by show w.heap.size ≤ w.heap.size + 1; omega) _⟩
      have h2 := bM.set (.int .i64 (m : Int))
      rw [show (pre ++ [x]).foldl max 0 = m by rw [List.foldl_append, HLN.out, List.foldl_cons, List.foldl_nil, HQ.out]]
      exact h2
  case done =>
    rintro D X hD ⟨bM, hB⟩ hK
    rw [Ct.lev_max T] at bM
    have cM := bM.cell
    gi_wp2
    refine ⟨by simp, .inl ⟨_, _, rfl, run_takeDeferred hK, ?_⟩⟩
    exact ⟨_, results_tmp rfl _ _ _, rfl, bel_put hB (by omega) hK⟩
  case stop =>
    rintro D c pre X hD hp h hK
    exact h.elim
end Go.Proofs.YtalejbabhjlehaaGreatDoor
/- Joined: RatAc, RatAd, RatAe. -/
/- The walks of layer 2: the rules of rounding. -/
namespace Go.Proofs.YtalejbabhjlehaaGreatDoor
open Go Go.RowKit
end Go.Proofs.YtalejbabhjlehaaGreatDoor
/- The walks of layer 2: round, Round. -/
namespace Go.Proofs.YtalejbabhjlehaaGreatDoor
open Go Go.RowKit
end Go.Proofs.YtalejbabhjlehaaGreatDoor
/- Layer 2: rounding: what it answers. -/
namespace Go.Proofs.YtalejbabhjlehaaGreatDoor
open Go Go.RowKit
end Go.Proofs.YtalejbabhjlehaaGreatDoor
/- Joined: RatAf, RatAg, RatAh. -/
/- The walks of layer 2: what the laws share: op, fits, the examples. -/
namespace Go.Proofs.YtalejbabhjlehaaGreatDoor
open Go Go.RowKit
end Go.Proofs.YtalejbabhjlehaaGreatDoor
/- Layer 2: rationals of few digits. No walk. -/
namespace Go.Proofs.YtalejbabhjlehaaGreatDoor
open Go Go.RowKit
end Go.Proofs.YtalejbabhjlehaaGreatDoor
/- Layer 2: how far rounding goes. No walk. -/
namespace Go.Proofs.YtalejbabhjlehaaGreatDoor
open Go Go.RowKit
def hlf : Rat := Rat.divInt 1 2
end Go.Proofs.YtalejbabhjlehaaGreatDoor
/- Joined: RatAi, RatAj. -/
/- The walks of layer 2: powers. -/
namespace Go.Proofs.YtalejbabhjlehaaGreatDoor
open Go Go.RowKit
end Go.Proofs.YtalejbabhjlehaaGreatDoor
/- The walks of layer 2: Power. -/
namespace Go.Proofs.YtalejbabhjlehaaGreatDoor
open Go Go.RowKit
end Go.Proofs.YtalejbabhjlehaaGreatDoor

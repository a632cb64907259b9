/- Joined: CnE, CnF. -/
import Derived.Test.YtalejbabhjlehaaGreatDoorPk4
import Derived.Laws.EntriesVeiled
/- Layer 9: the program's iterators: what contracts and expressions hand on. -/
namespace Go.Proofs.YtalejbabhjlehaaGreatDoor
open Go Go.RowKit Go.Shelf
attribute [local go_sem] Oper.semAt_some
theorem grown_of_below {W W' : World} (h : Below W.heap.size W W') : W.grownBy W' none := ⟨h.os, h.tape, h.output, h.size, fun k hk _ => h.block k hk⟩
theorem ownb9 {β : Type} {B : Nat} {I : β → World → Prop} (h : OwnFrom B I) {s : β} {W W' : World} (hs : I s W) (hb : Below W.heap.size W W') : I s W' := h s W W' none hs (grown_of_below hb) (fun r e => by cases e)
theorem ownm9 {β : Type} {B B' : Nat} {I : β → World → Prop} (h : OwnFrom B I) (hB : B ≤ B') : OwnFrom B' I := fun s W W' row hs hg hr => h s W W' row hs hg (fun r e => ⟨Nat.le_trans hB (hr r e).1, (hr r e).2⟩)
theorem ownp9 {β γ : Type} {B : Nat} {I : β → World → Prop} (h : OwnFrom B I) (f : γ → β) : OwnFrom B (fun s W => I (f s) W) := fun s W W' row hs hg hr => h (f s) W W' row hs hg hr
theorem owns9 {β : Type} {n₀ B B0 : Nat} {x : Option Nat} {w : World} (hw : w.heap.size ≤ B0) (hn : n₀ ≤ w.heap.size) : OwnFrom B0 (fun (_ : β) W => Step n₀ B x w W) := fun _ W W' row hs hg hr =>
  ⟨hs.below.grown hg (Nat.le_trans hn hs.below.size) (fun k e => Nat.le_trans hn (Nat.le_trans hw (hr k e).1)), fun k o hk hx hl ho => (hg.block k (Nat.lt_of_lt_of_le (Array.getElem?_eq_some_iff.1 hl).1 hs.below.size) (fun e => by have h1 := (hr k e.symm).1; have h2 := (Array.getElem?_eq_some_iff.1 hl).1; omega)).trans (hs.above k o hk hx hl ho)⟩
structure NodC (B : Nat) (T : Ct) (bb rb : Nat) (w : World) : Prop where
  b0 : B ≤ bb
  b : Boxed w bb 85 (.func (.func 76) #[] #[])
  r0 : B ≤ rb
  r : w.heap[rb]? = some (.cells #[.int .u8 T.k, .string T.f, .string T.t, .string T.n, .int .u8 T.x.k, .string T.x.r, .string T.x.n, .int .i64 T.x.d, .slice T.x.A T.x.sub.length T.x.c, .int .i64 T.d, .slice T.DA T.dl.length T.dc, .slice T.A T.sub.length T.c] 32 (0, 0))
theorem NodC.below {B : Nat} {T : Ct} {bb rb : Nat} {w w' : World} (h : NodC B T bb rb w) (hb : Below w.heap.size w w') : NodC B T bb rb w' :=
  ⟨h.b0, (hb.block _ h.b.lt).trans h.b, h.r0, (hb.block _ (lt_of_block h.r)).trans h.r⟩
theorem NodC.mono {B B' : Nat} {T : Ct} {bb rb : Nat} {w : World} (h : NodC B T bb rb w) (hb : B' ≤ B) : NodC B' T bb rb w := ⟨Nat.le_trans hb h.b0, h.b, Nat.le_trans hb h.r0, h.r⟩
set_option maxRecDepth 100000 in
set_option maxHeartbeats 1000000 in
theorem mkC_any (T : Ct) (w : World) : Calls Tryz.prog 75 #[T.val, .func (.func 76) #[] #[]] w fun e w' => e = .returned (.func (.func 97) #[] #[.pointer (some ⟨w.heap.size + 1, 0, none⟩), .pointer (some ⟨w.heap.size, 0, none⟩)]) ∧ w' = (w.alloc (.cells #[.int .u8 T.k, .string T.f, .string T.t, .string T.n, .int .u8 T.x.k, .string T.x.r, .string T.x.n, .int .i64 T.x.d, .slice T.x.A T.x.sub.length T.x.c, .int .i64 T.d, .slice T.DA T.dl.length T.dc, .slice T.A T.sub.length T.c] 32)).alloc (.cells #[.func (.func 76) #[] #[]] 85) := by
  go_enter Tryz.func75, Tryz.ntmps75
  go_wp2_with (fail)
  go_ret
  exact ⟨rfl, rfl⟩
set_option maxRecDepth 100000 in
set_option maxHeartbeats 2000000 in
theorem handsC (n₀ B : Nat) (T : Ct) (w0 w : World) (bb rb : Nat) (hn : n₀ = w0.heap.size) (hT : T.In w0) (hz : T.siz ≤ 900000) (hw : Below n₀ w0 w) (hN : NodC B T bb rb w) :
    Hands Fence.wide Tryz.prog 97 #[.pointer (some ⟨bb, 0, none⟩), .pointer (some ⟨rb, 0, none⟩)] (fun x : Nat × Ct => #[.int .i64 x.1, x.2.val]) n₀ B (T.nod 1) w := by
  intro n l J Jx W hW hl hlW hJ hJx hY h0
  have hbb := hN.b.lt
  have hrb := lt_of_block hN.r
  have hN2 := hN.below hW
  have hoc : ∀ k a b c, (Value.func (.func k) #[] #[.pointer (some a), .pointer (some b), .pointer (some c)]).oneCell' = true := fun _ _ _ _ => rfl
  obtain ⟨W3, hW3⟩ : ∃ W3, ((W.alloc (.cells #[.func (.yield l) #[] #[]] 100)).alloc (.cells #[.nilFunc] 100)).setCell ⟨W.heap.size + 1, 0, none⟩ (.func (.func 98) #[] #[.pointer (some ⟨W.heap.size, 0, none⟩), .pointer (some ⟨bb, 0, none⟩), .pointer (some ⟨W.heap.size + 1, 0, none⟩)]) = W3 := ⟨_, rfl⟩
  have hb3 : Below W.heap.size W W3 := by
    rw [← hW3]
    exact (((Below.refl _ W).alloc (Nat.le_refl _) _).alloc (by simp) _).setCell (p := ⟨W.heap.size + 1, 0, none⟩) (by show W.heap.size ≤ W.heap.size + 1; omega) _
  have bv := Boxed.new (W.alloc (.cells #[.func (.yield l) #[] #[]] 100)) 100 .nilFunc
  rw [World.size_alloc] at bv
  have hV : VisC W.heap.size bb (W.heap.size + 1) l W3 := by
    rw [← hW3]
    exact ⟨((Boxed.new W 100 _).alloc _).other (by omega) _, ((hN2.b.alloc _).alloc _).other (by have := hW.size; omega) _, bv.set _⟩
  have hB : B ≤ W.heap.size := Nat.le_trans hN.b0 (by have := hW.size; omega)
  have hv := visitC n₀ B l W.heap.size bb (W.heap.size + 1) (T.nod 1) w0 hn hB hN.b0 (by omega) (by omega) (by omega) (by omega) J Jx (fun s W o hs => hJ.alloc o hs) hY T (n - 1) 1 [] W3 hT (by omega) (hw.trans (by rw [hn]; exact (hW.trans (hb3.mono hW.size)).mono (by rw [hn] at hw; exact hw.size))) (Nat.le_trans hB hb3.size) (Nat.lt_of_lt_of_le hlW hb3.size) hV (ownb9 hJ h0 hb3) (by simp)
  obtain ⟨c0, c1, c2, c3, c4, c5, c6, c7, c8, c9, c10, c11⟩ := (Ct.Box.of_block (T := T) hN2.r)
  have d0 := cellO hb3 c0
  have d1 := cellO hb3 c1
  have d2 := cellO hb3 c2
  have d3 := cellO hb3 c3
  have d4 := cellO hb3 c4
  have d5 := cellO hb3 c5
  have d6 := cellO hb3 c6
  have d7 := cellO hb3 c7
  have d8 := cellO hb3 c8
  have d9 := cellO hb3 c9
  have d10 := cellO hb3 c10
  have d11 := cellO hb3 c11
  rw [show ((1 : Nat) : Int) = 1 from rfl] at hv
  have HV := Lib.hid hv
  have zv := hV.v.cell
  clear hv hV bv hN2 hN hY h0 hJ hJx c0 c1 c2 c3 c4 c5 c6 c7 c8 c9 c10 c11
  show CallsIn Fence.wide n Tryz.prog 97 #[.func (.yield l) #[] #[], .pointer (some ⟨bb, 0, none⟩), .pointer (some ⟨rb, 0, none⟩)] W _
  refine callsIn_of_wp Tryz.func97 rfl trivial ?_ rfl
  simp only [Tryz.ntmps97, List.size_toArray, List.length_cons, List.length_nil, Nat.reduceAdd, Nat.reduceSub, Array.replicate_succ, Array.replicate_zero, List.push_toArray, List.append_toArray, List.nil_append, List.cons_append]
  gi_wp2_with (refine ⟨trivial, wideD _, ?_⟩; gi_at_call 98; refine HV.out.mono ?_; rintro e W4 ⟨⟨rfl, hj⟩ | ⟨rfl, q, hq, hx⟩, hs⟩)
  · go_end0
    exact ⟨⟨_, rfl⟩, .inl hj⟩
  · go_end0
    exact ⟨⟨_, rfl⟩, .inr ⟨q, by simpa using hq, hx⟩⟩
structure NodE (B : Nat) (T : Ex) (bb rb : Nat) (w : World) : Prop where
  b0 : B ≤ bb
  b : Boxed w bb 93 (.func (.func 85) #[] #[])
  r0 : B ≤ rb
  r : w.heap[rb]? = some (.cells #[.int .u8 T.k, .string T.r, .string T.n, .int .i64 T.d, .slice T.A T.sub.length T.c] 29 (0, 0))
theorem NodE.below {B : Nat} {T : Ex} {bb rb : Nat} {w w' : World} (h : NodE B T bb rb w) (hb : Below w.heap.size w w') : NodE B T bb rb w' :=
  ⟨h.b0, (hb.block _ h.b.lt).trans h.b, h.r0, (hb.block _ (lt_of_block h.r)).trans h.r⟩
set_option maxRecDepth 100000 in
set_option maxHeartbeats 1000000 in
theorem mkE_any (T : Ex) (w : World) : Calls Tryz.prog 84 #[T.val, .func (.func 85) #[] #[]] w fun e w' => e = .returned (.func (.func 103) #[] #[.pointer (some ⟨w.heap.size + 1, 0, none⟩), .pointer (some ⟨w.heap.size, 0, none⟩)]) ∧ w' = (w.alloc (.cells #[.int .u8 T.k, .string T.r, .string T.n, .int .i64 T.d, .slice T.A T.sub.length T.c] 29)).alloc (.cells #[.func (.func 85) #[] #[]] 93) := by
  go_enter Tryz.func84, Tryz.ntmps84
  go_wp2_with (fail)
  go_ret
  exact ⟨rfl, rfl⟩
set_option maxRecDepth 100000 in
set_option maxHeartbeats 2000000 in
theorem handsE (n₀ B : Nat) (T : Ex) (w0 w : World) (bb rb : Nat) (hn : n₀ = w0.heap.size) (hT : T.In w0) (hz : T.siz ≤ 900000) (hw : Below n₀ w0 w) (hN : NodE B T bb rb w) :
    Hands Fence.wide Tryz.prog 103 #[.pointer (some ⟨bb, 0, none⟩), .pointer (some ⟨rb, 0, none⟩)] (fun x : Nat × Ex => #[.int .i64 x.1, x.2.val]) n₀ B (T.nod 1) w := by
  intro n l J Jx W hW hl hlW hJ hJx hY h0
  have hbb := hN.b.lt
  have hrb := lt_of_block hN.r
  have hN2 := hN.below hW
  have hoc : ∀ k a b c, (Value.func (.func k) #[] #[.pointer (some a), .pointer (some b), .pointer (some c)]).oneCell' = true := fun _ _ _ _ => rfl
  obtain ⟨W3, hW3⟩ : ∃ W3, ((W.alloc (.cells #[.func (.yield l) #[] #[]] 91)).alloc (.cells #[.nilFunc] 91)).setCell ⟨W.heap.size + 1, 0, none⟩ (.func (.func 104) #[] #[.pointer (some ⟨W.heap.size, 0, none⟩), .pointer (some ⟨bb, 0, none⟩), .pointer (some ⟨W.heap.size + 1, 0, none⟩)]) = W3 := ⟨_, rfl⟩
  have hb3 : Below W.heap.size W W3 := by
    rw [← hW3]
    exact (((Below.refl _ W).alloc (Nat.le_refl _) _).alloc (by simp) _).setCell (p := ⟨W.heap.size + 1, 0, none⟩) (by show W.heap.size ≤ W.heap.size + 1; omega) _
  have bv := Boxed.new (W.alloc (.cells #[.func (.yield l) #[] #[]] 91)) 91 .nilFunc
  rw [World.size_alloc] at bv
  have hV : VisE W.heap.size bb (W.heap.size + 1) l W3 := by
    rw [← hW3]
    exact ⟨((Boxed.new W 91 _).alloc _).other (by omega) _, ((hN2.b.alloc _).alloc _).other (by have := hW.size; omega) _, bv.set _⟩
  have hB : B ≤ W.heap.size := Nat.le_trans hN.b0 (by have := hW.size; omega)
  have hv := visitE n₀ B l W.heap.size bb (W.heap.size + 1) (T.nod 1) w0 hn hB hN.b0 (by omega) (by omega) (by omega) (by omega) J Jx (fun s W o hs => hJ.alloc o hs) hY T (n - 1) 1 [] W3 hT (by omega) (hw.trans (by rw [hn]; exact (hW.trans (hb3.mono hW.size)).mono (by rw [hn] at hw; exact hw.size))) (Nat.le_trans hB hb3.size) (Nat.lt_of_lt_of_le hlW hb3.size) hV (ownb9 hJ h0 hb3) (by simp)
  obtain ⟨c0, c1, c2, c3, c4⟩ := (Ex.Box.of_block (T := T) hN2.r)
  have d0 := cellO hb3 c0
  have d1 := cellO hb3 c1
  have d2 := cellO hb3 c2
  have d3 := cellO hb3 c3
  have d4 := cellO hb3 c4
  rw [show ((1 : Nat) : Int) = 1 from rfl] at hv
  have HV := Lib.hid hv
  have zv := hV.v.cell
  clear hv hV bv hN2 hN hY h0 hJ hJx c0 c1 c2 c3 c4
  show CallsIn Fence.wide n Tryz.prog 103 #[.func (.yield l) #[] #[], .pointer (some ⟨bb, 0, none⟩), .pointer (some ⟨rb, 0, none⟩)] W _
  refine callsIn_of_wp Tryz.func103 rfl trivial ?_ rfl
  simp only [Tryz.ntmps103, List.size_toArray, List.length_cons, List.length_nil, Nat.reduceAdd, Nat.reduceSub, Array.replicate_succ, Array.replicate_zero, List.push_toArray, List.append_toArray, List.nil_append, List.cons_append]
  gi_wp2_with (refine ⟨trivial, wideD _, ?_⟩; gi_at_call 104; refine HV.out.mono ?_; rintro e W4 ⟨⟨rfl, hj⟩ | ⟨rfl, q, hq, hx⟩, hs⟩)
  · go_end0
    exact ⟨⟨_, rfl⟩, .inl hj⟩
  · go_end0
    exact ⟨⟨_, rfl⟩, .inr ⟨q, by simpa using hq, hx⟩⟩
end Go.Proofs.YtalejbabhjlehaaGreatDoor
/- Layer 9: the program's iterators: contracts, expressions, levels. -/
namespace Go.Proofs.YtalejbabhjlehaaGreatDoor
open Go Go.RowKit Go.Shelf
attribute [local go_sem] Oper.semAt_some
set_option maxRecDepth 100000 in
set_option maxHeartbeats 1000000 in
theorem contracts_any (T : Ct) (w : World) : Calls Tryz.prog 45 #[T.val] w fun e w' => ∃ bb rb, e = .returned (.func (.func 97) #[] #[.pointer (some ⟨bb, 0, none⟩), .pointer (some ⟨rb, 0, none⟩)]) ∧ NodC w.heap.size T bb rb w' ∧ Below w.heap.size w w' := by
  have HM := Lib.hid (mkC_any T)
  have hbx := Ct.Box.new w T 32
  obtain ⟨c0, c1, c2, c3, c4, c5, c6, c7, c8, c9, c10, c11⟩ := hbx
  have hb1 := belO w (.cells #[.int .u8 T.k, .string T.f, .string T.t, .string T.n, .int .u8 T.x.k, .string T.x.r, .string T.x.n, .int .i64 T.x.d, .slice T.x.A T.x.sub.length T.x.c, .int .i64 T.d, .slice T.DA T.dl.length T.dc, .slice T.A T.sub.length T.c] 32)
  have hr := heap_alloc_new (w.alloc (.cells #[.int .u8 T.k, .string T.f, .string T.t, .string T.n, .int .u8 T.x.k, .string T.x.r, .string T.x.n, .int .i64 T.x.d, .slice T.x.A T.x.sub.length T.x.c, .int .i64 T.d, .slice T.DA T.dl.length T.dc, .slice T.A T.sub.length T.c] 32)) (.cells #[.int .u8 T.k, .string T.f, .string T.t, .string T.n, .int .u8 T.x.k, .string T.x.r, .string T.x.n, .int .i64 T.x.d, .slice T.x.A T.x.sub.length T.x.c, .int .i64 T.d, .slice T.DA T.dl.length T.dc, .slice T.A T.sub.length T.c] 32)
  go_enter Tryz.func45, Tryz.ntmps45
  go_wp2_with (go_at_call 75; ((with_reducible refine (HM.out _).mono ?_); rintro e w2 ⟨rfl, rfl⟩))
  go_ret
  have hb2 : Below w.heap.size w (((w.alloc (.cells #[.int .u8 T.k, .string T.f, .string T.t, .string T.n, .int .u8 T.x.k, .string T.x.r, .string T.x.n, .int .i64 T.x.d, .slice T.x.A T.x.sub.length T.x.c, .int .i64 T.d, .slice T.DA T.dl.length T.dc, .slice T.A T.sub.length T.c] 32)).alloc (.cells #[.int .u8 T.k, .string T.f, .string T.t, .string T.n, .int .u8 T.x.k, .string T.x.r, .string T.x.n, .int .i64 T.x.d, .slice T.x.A T.x.sub.length T.x.c, .int .i64 T.d, .slice T.DA T.dl.length T.dc, .slice T.A T.sub.length T.c] 32)).alloc (.cells #[.func (.func 76) #[] #[]] 85)) := (hb1.alloc (by simp) _).alloc (by simp; omega) _
  have hx := Boxed.new ((w.alloc (.cells #[.int .u8 T.k, .string T.f, .string T.t, .string T.n, .int .u8 T.x.k, .string T.x.r, .string T.x.n, .int .i64 T.x.d, .slice T.x.A T.x.sub.length T.x.c, .int .i64 T.d, .slice T.DA T.dl.length T.dc, .slice T.A T.sub.length T.c] 32)).alloc (.cells #[.int .u8 T.k, .string T.f, .string T.t, .string T.n, .int .u8 T.x.k, .string T.x.r, .string T.x.n, .int .i64 T.x.d, .slice T.x.A T.x.sub.length T.x.c, .int .i64 T.d, .slice T.DA T.dl.length T.dc, .slice T.A T.sub.length T.c] 32)) 85 (.func (.func 76) #[] #[])
  have hy : (((w.alloc (.cells #[.int .u8 T.k, .string T.f, .string T.t, .string T.n, .int .u8 T.x.k, .string T.x.r, .string T.x.n, .int .i64 T.x.d, .slice T.x.A T.x.sub.length T.x.c, .int .i64 T.d, .slice T.DA T.dl.length T.dc, .slice T.A T.sub.length T.c] 32)).alloc (.cells #[.int .u8 T.k, .string T.f, .string T.t, .string T.n, .int .u8 T.x.k, .string T.x.r, .string T.x.n, .int .i64 T.x.d, .slice T.x.A T.x.sub.length T.x.c, .int .i64 T.d, .slice T.DA T.dl.length T.dc, .slice T.A T.sub.length T.c] 32)).alloc (.cells #[.func (.func 76) #[] #[]] 85)).heap[(w.alloc (.cells #[.int .u8 T.k, .string T.f, .string T.t, .string T.n, .int .u8 T.x.k, .string T.x.r, .string T.x.n, .int .i64 T.x.d, .slice T.x.A T.x.sub.length T.x.c, .int .i64 T.d, .slice T.DA T.dl.length T.dc, .slice T.A T.sub.length T.c] 32)).heap.size]? = some (.cells #[.int .u8 T.k, .string T.f, .string T.t, .string T.n, .int .u8 T.x.k, .string T.x.r, .string T.x.n, .int .i64 T.x.d, .slice T.x.A T.x.sub.length T.x.c, .int .i64 T.d, .slice T.DA T.dl.length T.dc, .slice T.A T.sub.length T.c] 32 (0, 0)) := (Below.heap_alloc _ _ _ (by simp)).trans hr
  simp only [World.size_alloc] at hx hy ⊢
  exact ⟨_, _, rfl, ⟨by omega, hx, by omega, hy⟩, hb2⟩
def Ex.lst (x : Ex) : List (Nat × Ex) := if x.bar then [] else x.nod 1
theorem Ct.lv1_eq (p : Nat × Ct) : Ct.lv1 p = p.1 :: p.2.x.lst.map (fun q => p.1 + q.1) := by unfold Ct.lv1 Ex.lst; split <;> rfl
abbrev encE : Nat × Ex → Array Value := fun x => #[.int .i64 x.1, x.2.val]
set_option maxRecDepth 100000 in
set_option maxHeartbeats 1000000 in
theorem hands0 (n₀ B : Nat) (w : World) : Hands Fence.wide Tryz.prog 83 #[] encE n₀ B [] w := by
  intro n l J Jx W hW hl hlW hJ hJx hY h0
  have H0 := Lib.hid h0
  clear hY hJ hJx h0
  show CallsIn Fence.wide n Tryz.prog 83 #[.func (.yield l) #[] #[]] W _
  refine callsIn_of_wp Tryz.func83 rfl trivial ?_ rfl
  simp only [Tryz.ntmps83, List.size_toArray, List.length_cons, List.length_nil, Nat.reduceAdd, Nat.reduceSub, Array.replicate_succ, Array.replicate_zero, List.push_toArray, List.append_toArray, List.nil_append, List.cons_append]
  gi_wp2_with (fail)
  go_end0
  exact ⟨⟨_, rfl⟩, .inl H0.out⟩
set_option maxRecDepth 100000 in
set_option maxHeartbeats 1000000 in
theorem exprs_any (T : Ex) (w : World) (HZ : Calls Tryz.prog 82 #[T.val] (w.alloc (.cells #[.int .u8 T.k, .string T.r, .string T.n, .int .i64 T.d, .slice T.A T.sub.length T.c] 29)) (BoolRO T.bar (w.alloc (.cells #[.int .u8 T.k, .string T.r, .string T.n, .int .i64 T.d, .slice T.A T.sub.length T.c] 29)))) : Calls Tryz.prog 48 #[T.val] w fun e w' => ∃ g lb, e = .returned (.func (.func g) #[] lb) ∧ (∀ args w, (callFunc g args).run Tryz.prog w = .ok (.enter g args) w) ∧ Below w.heap.size w w' ∧
    ∀ (n₀ B : Nat) (w0 : World), n₀ = w0.heap.size → T.In w0 → T.siz ≤ 900000 → Below n₀ w0 w → B ≤ w.heap.size → Hands Fence.wide Tryz.prog g lb encE n₀ B T.lst w' := by
  have HM := Lib.hid (mkE_any T)
  have hbx := Ex.Box.new w T 29
  have hb1 := belO w (.cells #[.int .u8 T.k, .string T.r, .string T.n, .int .i64 T.d, .slice T.A T.sub.length T.c] 29)
  have HQ := Lib.hid HZ
  clear HZ
  cases hz : T.bar
  · rw [hz] at HQ
    obtain ⟨c0, c1, c2, c3, c4⟩ := hbx
    go_enter Tryz.func48, Tryz.ntmps48
    go_wp2_with (first
      | (go_at_call 82; ((with_reducible refine HQ.out.mono ?_); rintro e w2 ⟨rfl, hb⟩; have d0 := cellO hb c0; have d1 := cellO hb c1; have d2 := cellO hb c2; have d3 := cellO hb c3; have d4 := cellO hb c4; have HB := Lib.hid (btO hb1 hb); clear hb))
      | (go_at_call 84; ((with_reducible refine (HM.out _).mono ?_); rintro e w3 ⟨rfl, rfl⟩)))
    go_ret
    have hb2 : Below w.heap.size w ((w2.alloc (.cells #[.int .u8 T.k, .string T.r, .string T.n, .int .i64 T.d, .slice T.A T.sub.length T.c] 29)).alloc (.cells #[.func (.func 85) #[] #[]] 93)) := (HB.out.alloc (by exact HB.out.size) _).alloc (by have := HB.out.size; simp; omega) _
    have hx := Boxed.new (w2.alloc (.cells #[.int .u8 T.k, .string T.r, .string T.n, .int .i64 T.d, .slice T.A T.sub.length T.c] 29)) 93 (.func (.func 85) #[] #[])
    have hr := heap_alloc_new w2 (.cells #[.int .u8 T.k, .string T.r, .string T.n, .int .i64 T.d, .slice T.A T.sub.length T.c] 29)
    have hy : ((w2.alloc (.cells #[.int .u8 T.k, .string T.r, .string T.n, .int .i64 T.d, .slice T.A T.sub.length T.c] 29)).alloc (.cells #[.func (.func 85) #[] #[]] 93)).heap[w2.heap.size]? = some (.cells #[.int .u8 T.k, .string T.r, .string T.n, .int .i64 T.d, .slice T.A T.sub.length T.c] 29 (0, 0)) := (Below.heap_alloc _ _ _ (by simp)).trans hr
    simp only [World.size_alloc] at hx
    refine ⟨_, _, rfl, enters_of Tryz.func103 (by kernel_rfl) rfl, hb2, fun n₀ B w0 hn hT hsz hw hB => ?_⟩
    unfold Ex.lst
    rw [hz, if_neg Bool.false_ne_true]
    have hs := HB.out.size
    refine handsE n₀ B T w0 _ _ _ hn hT hsz (hw.trans (hb2.mono (by rw [hn] at hw ⊢; exact hw.size))) ⟨by omega, hx, by omega, hy⟩
  · rw [hz] at HQ
    obtain ⟨c0, c1, c2, c3, c4⟩ := hbx
    go_enter Tryz.func48, Tryz.ntmps48
    go_wp2_with (go_at_call 82; ((with_reducible refine HQ.out.mono ?_); rintro e w2 ⟨rfl, hb⟩; have HB := Lib.hid (btO hb1 hb); clear hb))
    go_ret
    refine ⟨_, _, rfl, enters_of Tryz.func83 (by kernel_rfl) rfl, HB.out, fun n₀ B w0 _ _ _ _ _ => ?_⟩
    unfold Ex.lst
    rw [hz, if_pos rfl]
    exact hands0 n₀ B w2
end Go.Proofs.YtalejbabhjlehaaGreatDoor

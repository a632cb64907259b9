/- Joined: OeG, OeQ, OeR, OeL10, OeL11. -/
import Derived.Test.YtbfimfjhdbpenaaGreatDoorPk26
import Derived.Test.YtbfimfjhdbpenaaGreatDoorPk27
import Derived.Test.YtbfimfjhdbpenaaGreatDoorPk23
import Derived.Test.YtbfimfjhdbpenaaGreatDoorPk18
/- Layer 8: the law's own function alive. -/
namespace Go.Proofs.YtbfimfjhdbpenaaGreatDoor
open Go Go.RowKit Go.BigFrame
end Go.Proofs.YtbfimfjhdbpenaaGreatDoor
/- Layer 8: what Put and Choose return, as laws see it. -/
namespace Go.Proofs.YtbfimfjhdbpenaaGreatDoor
open Go Go.RowKit Go.BigFrame
structure EvK (w : World) (A : Option Addr) (L : List Fx) (c : Nat) (A2 : Option Addr) (C : List Cx) (c2 : Nat) : Prop where
  i : Ev.In w ⟨A, L, c, A2, C, c2⟩
  k : CapR A L.length c
  k2 : CapR A2 C.length c2
theorem EvK.below {w w' : World} {A : Option Addr} {L : List Fx} {c : Nat} {A2 : Option Addr} {C : List Cx} {c2 : Nat} (h : EvK w A L c A2 C c2) (hb : Below w.heap.size w w') : EvK w' A L c A2 C c2 := ⟨h.i.below hb, h.k, h.k2⟩
section
variable {fs : List Fx} {cs : List Cx}
def ShF (fs : List Fx) : Prop := ∀ f ∈ fs, f.1.size ≤ 140737488351232 ∧ f.2.2.size ≤ 1048576
def ShC (cs : List Cx) : Prop := ∀ c ∈ cs, c.1.size ≤ 140737488351232 ∧ c.2.1.size ≤ 140737488351232
theorem ShF.big {fs : List Fx} (h : ShF fs) : ∀ f ∈ fs, f.1.size ≤ 140737488351232 ∧ f.2.2.size ≤ 140737488351232 := fun f hf => ⟨(h f hf).1, by have := (h f hf).2; omega⟩
theorem ShF.put (h : ShF fs) {f : Fx} (h1 : f.1.size ≤ 140737488351232) (h2 : f.2.2.size ≤ 1048576) : ShF (putFL fs cs f) := fun z hz => by
  rcases putFL_mem hz with rfl | hz
  · exact ⟨h1, h2⟩
  · exact h z hz
theorem ShC.put (h : ShC cs) {f : Fx} : ShC (putFC fs cs f) := fun z hz => h z (putFC_mem hz)
theorem ShF.cho (h : ShF fs) {c : Cx} : ShF (choFL fs cs c) := fun z hz => h z (choFL_mem hz)
theorem ShC.cho (h : ShC cs) {c : Cx} (h1 : c.1.size ≤ 140737488351232) (h2 : c.2.1.size ≤ 140737488351232) : ShC (choCL fs cs c) := fun z hz => by
  rcases choCL_mem hz with rfl | hz
  · exact ⟨h1, h2⟩
  · exact h z hz
end
end Go.Proofs.YtbfimfjhdbpenaaGreatDoor
/- Layer 8: rows of a call's own that a law writes into. -/
namespace Go.Proofs.YtbfimfjhdbpenaaGreatDoor
open Go Go.RowKit Go.BigFrame
def EvO (L : List Fx) (C : List Cx) (g : Int) (w : World) (x : Ending) (w' : World) : Prop := ∃ A c A2 c2, x = .returned (.tuple #[.agg #[.slice A L.length c, .slice A2 C.length c2], .int .i64 g]) ∧ Ev.In w' ⟨A, L, c, A2, C, c2⟩ ∧ RowW w.heap.size w'.heap.size A (L.length * 3) w' ∧ RowW w.heap.size w'.heap.size A2 (C.length * 4) w' ∧ Below w.heap.size w w'
theorem PutO.evO {L : List Fx} {C : List Cx} {e : Int} {w w' : World} {x : Ending} (h : PutO L C e w x w') (l1 : L.length ≤ 1000) (l2 : C.length ≤ 1000) (b1 : ∀ f ∈ L, f.1.size ≤ 140737488351232 ∧ f.2.2.size ≤ 140737488351232) (b2 : ∀ c ∈ C, c.1.size ≤ 140737488351232 ∧ c.2.1.size ≤ 140737488351232) : EvO L C e w x w' := by
  obtain ⟨A, c, A2, c2, h1, h2, -, -, h3, h4, h5⟩ := h.ev l1 l2 b1 b2
  exact ⟨A, c, A2, c2, h1, h2, RowW.own h3, RowW.own h4, h5⟩
structure EnW (B N : Nat) (w0 : World) (aA aB dA dB : Option Addr) (na nb nd ne : Nat) (w : World) : Prop where
  b : Below B w0 w
  r0 : RowW B N aA na w
  r1 : RowW B N aB nb w
  r2 : RowW B N dA nd w
  r3 : RowW B N dB ne w
section
variable {B N : Nat} {w0 w w' : World} {aA aB dA dB : Option Addr} {na nb nd ne : Nat}
theorem EnW.below (h : EnW B N w0 aA aB dA dB na nb nd ne w) (hB : B ≤ w.heap.size) (hb : Below w.heap.size w w') : EnW B N w0 aA aB dA dB na nb nd ne w' :=
  ⟨h.b.trans (hb.mono hB), h.r0.below hb, h.r1.below hb, h.r2.below hb, h.r3.below hb⟩
theorem EnW.set (h : EnW B N w0 aA aB dA dB na nb nd ne w) {b : Nat} (hB : B ≤ b) (o : Nat) (v : Value) : EnW B N w0 aA aB dA dB na nb nd ne (w.setCell ⟨b, o, none⟩ v) :=
  ⟨h.b.setCell (p := ⟨b, o, none⟩) hB v, h.r0.set b o v, h.r1.set b o v, h.r2.set b o v, h.r3.set b o v⟩
end
structure EnA (B N : Nat) (w0 : World) (aA aB dA dB : Option Addr) (na nb nd ne : Nat) (T : TypeId) (arr : Array Value) (w : World) : Prop where
  e : EnW B N w0 aA aB dA dB na nb nd ne w
  a : w.heap[N]? = some (.cells arr T (0, 0))
  n : B ≤ N
structure EnZ (B N : Nat) (w0 : World) (aA aB dA dB : Option Addr) (na nb nd ne : Nat) (T : TypeId) (arr : Array Value) (q : Nat) (z : Array Value) (w : World) : Prop where
  e : EnA B N w0 aA aB dA dB na nb nd ne T arr w
  z : w.heap[q]? = some (.cells z T (0, 0))
  q : N < q
section
variable {B N : Nat} {w0 w w' : World} {aA aB dA dB : Option Addr} {na nb nd ne : Nat} {T : TypeId} {arr : Array Value}
theorem EnA.below (h : EnA B N w0 aA aB dA dB na nb nd ne T arr w) (hb : Below w.heap.size w w') : EnA B N w0 aA aB dA dB na nb nd ne T arr w' :=
  ⟨h.e.below (Nat.le_trans h.n (Nat.le_of_lt (lt_of_block h.a))) hb, (hb.block N (lt_of_block h.a)).trans h.a, h.n⟩
theorem EnA.box (h : EnA B N w0 aA aB dA dB na nb nd ne T arr w) (z : Array Value) : EnZ B N w0 aA aB dA dB na nb nd ne T arr w.heap.size z (w.alloc (.cells z T)) :=
  ⟨h.below (belO _ _), heap_alloc_new w _, lt_of_block h.a⟩
theorem EnZ.set {q : Nat} {z : Array Value} (h : EnZ B N w0 aA aB dA dB na nb nd ne T arr q z w) {b : Nat} (hB : B ≤ b) (hN : b < N) (o : Nat) (v : Value) : EnZ B N w0 aA aB dA dB na nb nd ne T arr q z (w.setCell ⟨b, o, none⟩ v) :=
  ⟨⟨h.e.e.set hB o v, (Below.heap_setCell w ⟨b, o, none⟩ v N (by show N ≠ b; omega)).trans h.e.a, h.e.n⟩, (Below.heap_setCell w ⟨b, o, none⟩ v q (by have := h.q; show q ≠ b; omega)).trans h.z, h.q⟩
end
end Go.Proofs.YtbfimfjhdbpenaaGreatDoor
/- The law ObservableEnvs: the walks. -/
namespace Go.Proofs.YtbfimfjhdbpenaaGreatDoor
open Go Go.RowKit Go.BigFrame
structure EnG (Q : Nat) (E : Ev) (fn fv cp cn : ByteArray) (fd cd : Int) (cb : Bool) (W : World) : Prop where
  v0 : W.cell? ⟨Q, 0, none⟩ = some (.slice E.fA E.fs.length E.fc)
  v1 : W.cell? ⟨Q, 1, none⟩ = some (.slice E.cA E.cs.length E.cc)
  f0 : W.cell? ⟨Q + 1, 0, none⟩ = some (.string fn)
  f1 : W.cell? ⟨Q + 1, 1, none⟩ = some (.int .i64 fd)
  f2 : W.cell? ⟨Q + 1, 2, none⟩ = some (.string fv)
  c0 : W.cell? ⟨Q + 1 + 1, 0, none⟩ = some (.string cp)
  c1 : W.cell? ⟨Q + 1 + 1, 1, none⟩ = some (.string cn)
  c2 : W.cell? ⟨Q + 1 + 1, 2, none⟩ = some (.int .i64 cd)
  c3 : W.cell? ⟨Q + 1 + 1, 3, none⟩ = some (.bool cb)
theorem EnG.below {Q : Nat} {E : Ev} {fn fv cp cn : ByteArray} {fd cd : Int} {cb : Bool} {W W' : World} (h : EnG Q E fn fv cp cn fd cd cb W) (hb : Below W.heap.size W W') : EnG Q E fn fv cp cn fd cd cb W' := ⟨cellO hb h.v0, cellO hb h.v1, cellO hb h.f0, cellO hb h.f1, cellO hb h.f2, cellO hb h.c0, cellO hb h.c1, cellO hb h.c2, cellO hb h.c3⟩
theorem EnG.zs {Q : Nat} {E : Ev} {fn fv cp cn : ByteArray} {fd cd : Int} {cb : Bool} {W : World} (h : EnG Q E fn fv cp cn fd cd cb W) : (∀ z : Bel W, z.1.cell? ⟨Q, 0, none⟩ = some (.slice E.fA E.fs.length E.fc)) ∧ (∀ z : Bel W, z.1.cell? ⟨Q, 1, none⟩ = some (.slice E.cA E.cs.length E.cc)) ∧ (∀ z : Bel W, z.1.cell? ⟨Q + 1, 0, none⟩ = some (.string fn)) ∧ (∀ z : Bel W, z.1.cell? ⟨Q + 1, 1, none⟩ = some (.int .i64 fd)) ∧ (∀ z : Bel W, z.1.cell? ⟨Q + 1, 2, none⟩ = some (.string fv)) ∧ (∀ z : Bel W, z.1.cell? ⟨Q + 1 + 1, 0, none⟩ = some (.string cp)) ∧ (∀ z : Bel W, z.1.cell? ⟨Q + 1 + 1, 1, none⟩ = some (.string cn)) ∧ (∀ z : Bel W, z.1.cell? ⟨Q + 1 + 1, 2, none⟩ = some (.int .i64 cd)) ∧ (∀ z : Bel W, z.1.cell? ⟨Q + 1 + 1, 3, none⟩ = some (.bool cb)) := ⟨fun z => z.cell h.v0, fun z => z.cell h.v1, fun z => z.cell h.f0, fun z => z.cell h.f1, fun z => z.cell h.f2, fun z => z.cell h.c0, fun z => z.cell h.c1, fun z => z.cell h.c2, fun z => z.cell h.c3⟩
theorem en_begin (w : World) (E : Ev) (fn fv cp cn : ByteArray) (fd cd : Int) (cb : Bool) : ∃ w1, (((w.alloc (.cells #[.slice E.fA E.fs.length E.fc, .slice E.cA E.cs.length E.cc] 38)).alloc (.cells #[.string fn, .int .i64 fd, .string fv] 44)).alloc (.cells #[.string cp, .string cn, .int .i64 cd, .bool cb] 47)) = w1 ∧ Below w.heap.size w w1 ∧ EnG w.heap.size E fn fv cp cn fd cd cb w1 ∧ w.heap.size < w1.heap.size := by
  have r0 := heap_alloc_new w (.cells #[.slice E.fA E.fs.length E.fc, .slice E.cA E.cs.length E.cc] 38)
  have r1 := heap_alloc_new (w.alloc (.cells #[.slice E.fA E.fs.length E.fc, .slice E.cA E.cs.length E.cc] 38)) (.cells #[.string fn, .int .i64 fd, .string fv] 44)
  rw [World.size_alloc] at r1
  have r2 := heap_alloc_new ((w.alloc (.cells #[.slice E.fA E.fs.length E.fc, .slice E.cA E.cs.length E.cc] 38)).alloc (.cells #[.string fn, .int .i64 fd, .string fv] 44)) (.cells #[.string cp, .string cn, .int .i64 cd, .bool cb] 47)
  rw [World.size_alloc, World.size_alloc] at r2
  have b2 := belO ((w.alloc (.cells #[.slice E.fA E.fs.length E.fc, .slice E.cA E.cs.length E.cc] 38)).alloc (.cells #[.string fn, .int .i64 fd, .string fv] 44)) (.cells #[.string cp, .string cn, .int .i64 cd, .bool cb] 47)
  have b1 := btO (belO (w.alloc (.cells #[.slice E.fA E.fs.length E.fc, .slice E.cA E.cs.length E.cc] 38)) (.cells #[.string fn, .int .i64 fd, .string fv] 44)) b2
  exact ⟨_, rfl, btO (belO w _) b1, ⟨cellO b1 (row_cell (j := 0) r0 rfl), cellO b1 (row_cell (j := 1) r0 rfl), cellO b2 (row_cell (j := 0) r1 rfl), cellO b2 (row_cell (j := 1) r1 rfl), cellO b2 (row_cell (j := 2) r1 rfl), (row_cell (j := 0) r2 rfl), (row_cell (j := 1) r2 rfl), (row_cell (j := 2) r2 rfl), (row_cell (j := 3) r2 rfl)⟩, by rw [World.size_alloc, World.size_alloc, World.size_alloc]; omega⟩
set_option maxRecDepth 100000 in
set_option maxHeartbeats 25600000 in
theorem envs_out (E : Ev) (fn fv cp cn : ByteArray) (fd cd : Int) (cb : Bool) (bg : Bool) (w : World)
    (hg : ∀ W, Below w.heap.size w W → Calls Tryz.prog 24 #[.agg #[.slice E.fA E.fs.length E.fc, .slice E.cA E.cs.length E.cc]] W (BoolRO bg W))
    (key : (bg = true ∧ True) ∨ (bg = false ∧ 1000 < (fn.size : Int)) ∨ (bg = false ∧ ¬ 1000 < (fn.size : Int) ∧ 3000 < (fv.size : Int)) ∨ (bg = false ∧ ¬ 1000 < (fn.size : Int) ∧ ¬ 3000 < (fv.size : Int) ∧ 1000 < (cp.size : Int)) ∨ (bg = false ∧ ¬ 1000 < (fn.size : Int) ∧ ¬ 3000 < (fv.size : Int) ∧ ¬ 1000 < (cp.size : Int) ∧ 1000 < (cn.size : Int))) :
    Calls Tryz.prog 4 #[.agg #[.slice E.fA E.fs.length E.fc, .slice E.cA E.cs.length E.cc], .agg #[.string fn, .int .i64 fd, .string fv], .agg #[.string cp, .string cn, .int .i64 cd, .bool cb]] w (BoolRO true w) := by
  obtain ⟨w1, hw1, hB, hS, hlt⟩ := en_begin w E fn fv cp cn fd cd cb
  have HB := Lib.hid hB
  have HLT := Lib.hid hlt
  have HG := Lib.hid (fun W (hW : Below w1.heap.size w1 W) => hS.below hW)
  have Hg := Lib.hid (fun W (hW : Below w1.heap.size w1 W) => hg W (btO hB hW))
  have HW1 := Lib.hid (Below.refl w1.heap.size w1)
  clear hB hS hlt hg
  obtain ⟨v0, v1, f0, f1, f2, c0, c1, c2, c3⟩ := HG.out _ HW1.out
  rcases key with ⟨rfl, -⟩ | ⟨rfl, q1⟩ | ⟨rfl, q1, q2⟩ | ⟨rfl, q1, q2, q3⟩ | ⟨rfl, q1, q2, q3, q4⟩
  all_goals (
    go_enter Tryz.func4, Tryz.ntmps4
    go_wp2_with (first
        | (go_at_call 24; have _t := HW1; ((with_reducible refine (Hg.out _ (HW1.out)).mono ?_); rintro u w2 ⟨rfl, hb⟩; clear v0 v1 f0 f1 f2 c0 c1 c2 c3; have HW2 := Lib.hid (btO (HW1.out) hb); obtain ⟨v0, v1, f0, f1, f2, c0, c1, c2, c3⟩ := HG.out _ HW2.out; clear hb)))
    go_ret
    exact ⟨rfl, btO HB.out HW2.out⟩)
set_option maxRecDepth 100000 in
set_option maxHeartbeats 25600000 in
theorem envs_main (E : Ev) (fn fv cp cn : ByteArray) (fd cd : Int) (cb : Bool) (aL dL : List Fx) (aC dC : List Cx) (e g ce : Int) (yv : ByteArray) (yb xb : Bool) (w : World)
    (la : aL.length ≤ 1000) (lc : aC.length ≤ 1000) (ld : dL.length ≤ 1000) (le : dC.length ≤ 1000)
    (hg : ∀ W, Below w.heap.size w W → Calls Tryz.prog 24 #[.agg #[.slice E.fA E.fs.length E.fc, .slice E.cA E.cs.length E.cc]] W (BoolRO false W))
    (h1 : ∀ W, Below w.heap.size w W → Calls Tryz.prog 25 #[.agg #[.slice E.fA E.fs.length E.fc, .slice E.cA E.cs.length E.cc]] W (EnvR E W))
    (h2 : ∀ W oA oc oB ok, Below w.heap.size w W → EvK W oA E.fs oc oB E.cs ok → Calls Tryz.prog 19 #[.agg #[.slice oA E.fs.length oc, .slice oB E.cs.length ok], .agg #[.string fn, .int .i64 fd, .string fv]] W (EvO aL aC e W))
    (h3 : ∀ W, Below w.heap.size w W → Calls Tryz.prog 26 #[.agg #[.slice E.fA E.fs.length E.fc, .slice E.cA E.cs.length E.cc], .agg #[.string fn, .int .i64 fd, .string fv]] W (PutR aL aC e W))
    (h4 : ∀ W oA oc oB ok, Below w.heap.size w W → EvK W oA E.fs oc oB E.cs ok → Calls Tryz.prog 20 #[.agg #[.slice oA E.fs.length oc, .slice oB E.cs.length ok], .agg #[.string cp, .string cn, .int .i64 cd, .bool cb]] W (EvO dL dC g W))
    (h5 : ∀ W, Below w.heap.size w W → Calls Tryz.prog 27 #[.agg #[.slice E.fA E.fs.length E.fc, .slice E.cA E.cs.length E.cc], .agg #[.string cp, .string cn, .int .i64 cd, .bool cb]] W (PutR dL dC g W))
    (h6 : ∀ W oA oc oB ok, Below w.heap.size w W → EvK W oA E.fs oc oB E.cs ok → Calls Tryz.prog 28 #[.agg #[.slice oA E.fs.length oc, .slice oB E.cs.length ok], .string fn, .int .i64 fd] W (FndE yv yb W))
    (h7 : ∀ W, Below w.heap.size w W → Calls Tryz.prog 29 #[.agg #[.slice E.fA E.fs.length E.fc, .slice E.cA E.cs.length E.cc], .string fn, .int .i64 fd] W (FndE yv yb W))
    (h8 : ∀ W oA oc oB ok, Below w.heap.size w W → EvK W oA E.fs oc oB E.cs ok → Calls Tryz.prog 22 #[.agg #[.slice oA E.fs.length oc, .slice oB E.cs.length ok]] W (IntRO ce W))
    (h9 : ∀ W, Below w.heap.size w W → Calls Tryz.prog 30 #[.agg #[.slice E.fA E.fs.length E.fc, .slice E.cA E.cs.length E.cc]] W (IntRO ce W))
    (hs1 : ∀ W aA ac aB ak bA bc bB bk, Below w.heap.size w W → Ev.In W ⟨aA, aL, ac, aB, aC, ak⟩ → Ev.In W ⟨bA, aL, bc, bB, aC, bk⟩ → Calls Tryz.prog 31 #[.agg #[.slice aA aL.length ac, .slice aB aC.length ak], .agg #[.slice bA aL.length bc, .slice bB aC.length bk]] W (BoolRO true W))
    (hs2 : ∀ W dA dc dB dk kA kc kB kk, Below w.heap.size w W → Ev.In W ⟨dA, dL, dc, dB, dC, dk⟩ → Ev.In W ⟨kA, dL, kc, kB, dC, kk⟩ → Calls Tryz.prog 31 #[.agg #[.slice dA dL.length dc, .slice dB dC.length dk], .agg #[.slice kA dL.length kc, .slice kB dC.length kk]] W (BoolRO true W))
    (hx1 : ∀ W oA oc oB ok, Below w.heap.size w W → EvK W oA E.fs oc oB E.cs ok → Calls Tryz.prog 32 #[.agg #[.slice oA E.fs.length oc, .slice oB E.cs.length ok], .string cp, .string cn, .int .i64 cd] W (BoolRO xb W))
    (hx2 : ∀ W, Below w.heap.size w W → Calls Tryz.prog 33 #[.agg #[.slice E.fA E.fs.length E.fc, .slice E.cA E.cs.length E.cc], .string cp, .string cn, .int .i64 cd] W (BoolRO xb W))
    (hs3 : ∀ W oA oc oB ok, Below w.heap.size w W → Ev.In W ⟨oA, E.fs, oc, oB, E.cs, ok⟩ → Calls Tryz.prog 31 #[.agg #[.slice oA E.fs.length oc, .slice oB E.cs.length ok], .agg #[.slice E.fA E.fs.length E.fc, .slice E.cA E.cs.length E.cc]] W (BoolRO true W))
    (q1 : ¬ 1000 < (fn.size : Int)) (q2 : ¬ 3000 < (fv.size : Int)) (q3 : ¬ 1000 < (cp.size : Int)) (q4 : ¬ 1000 < (cn.size : Int)) :
    Calls Tryz.prog 4 #[.agg #[.slice E.fA E.fs.length E.fc, .slice E.cA E.cs.length E.cc], .agg #[.string fn, .int .i64 fd, .string fv], .agg #[.string cp, .string cn, .int .i64 cd, .bool cb]] w (BoolRO true w) := by
  obtain ⟨w1, hw1, hB, hS, hlt⟩ := en_begin w E fn fv cp cn fd cd cb
  have HB := Lib.hid hB
  have HLT := Lib.hid hlt
  have HG := Lib.hid (fun W (hW : Below w1.heap.size w1 W) => hS.below hW)
  have Hg := Lib.hid (fun W (hW : Below w1.heap.size w1 W) => hg W (btO hB hW))
  have H1 := Lib.hid (fun W (hW : Below w1.heap.size w1 W) => h1 W (btO hB hW))
  have H2 := Lib.hid (fun W oA oc oB ok (hW : Below w1.heap.size w1 W) => h2 W oA oc oB ok (btO hB hW))
  have H3 := Lib.hid (fun W (hW : Below w1.heap.size w1 W) => h3 W (btO hB hW))
  have H4 := Lib.hid (fun W oA oc oB ok (hW : Below w1.heap.size w1 W) => h4 W oA oc oB ok (btO hB hW))
  have H5 := Lib.hid (fun W (hW : Below w1.heap.size w1 W) => h5 W (btO hB hW))
  have H6 := Lib.hid (fun W oA oc oB ok (hW : Below w1.heap.size w1 W) => h6 W oA oc oB ok (btO hB hW))
  have H7 := Lib.hid (fun W (hW : Below w1.heap.size w1 W) => h7 W (btO hB hW))
  have H8 := Lib.hid (fun W oA oc oB ok (hW : Below w1.heap.size w1 W) => h8 W oA oc oB ok (btO hB hW))
  have H9 := Lib.hid (fun W (hW : Below w1.heap.size w1 W) => h9 W (btO hB hW))
  have Hs1 := Lib.hid (fun W aA ac aB ak bA bc bB bk (hW : Below w1.heap.size w1 W) => hs1 W aA ac aB ak bA bc bB bk (btO hB hW))
  have Hs2 := Lib.hid (fun W dA dc dB dk kA kc kB kk (hW : Below w1.heap.size w1 W) => hs2 W dA dc dB dk kA kc kB kk (btO hB hW))
  have Hx1 := Lib.hid (fun W oA oc oB ok (hW : Below w1.heap.size w1 W) => hx1 W oA oc oB ok (btO hB hW))
  have Hx2 := Lib.hid (fun W (hW : Below w1.heap.size w1 W) => hx2 W (btO hB hW))
  have Hs3 := Lib.hid (fun W oA oc oB ok (hW : Below w1.heap.size w1 W) => hs3 W oA oc oB ok (btO hB hW))
  have HW1 := Lib.hid (Below.refl w1.heap.size w1)
  clear hB hS hlt hg h1 h2 h3 h4 h5 h6 h7 h8 h9 hs1 hs2 hx1 hx2 hs3
  obtain ⟨v0, v1, f0, f1, f2, c0, c1, c2, c3⟩ := HG.out _ HW1.out
  go_enter Tryz.func4, Tryz.ntmps4
  go_wp2_with (first
      | (go_at_call 29; have _t := HW8; ((with_reducible refine (H7.out _ (HW8.out)).mono ?_); rintro u w9 ⟨rfl, hb⟩; clear v0 v1 f0 f1 f2 c0 c1 c2 c3 ro0 ro1 ra0 ra1 rb0 rb1 rd0 rd1 rk0 rk1; have HW9 := Lib.hid (btO (HW8.out) hb); have HCo := Lib.hid (btO HCo.out hb); have HCa := Lib.hid (btO HCa.out hb); have HCb := Lib.hid (btO HCb.out hb); have HCd := Lib.hid (btO HCd.out hb); have HCk := Lib.hid (btO HCk.out hb); obtain ⟨v0, v1, f0, f1, f2, c0, c1, c2, c3⟩ := HG.out _ HW9.out; have ro0 := cellO HCo.out (row_cell (j := 0) HRo.out rfl); have ro1 := cellO HCo.out (row_cell (j := 1) HRo.out rfl); have ra0 := cellO HCa.out (row_cell (j := 0) HRa.out rfl); have ra1 := cellO HCa.out (row_cell (j := 1) HRa.out rfl); have rb0 := cellO HCb.out (row_cell (j := 0) HRb.out rfl); have rb1 := cellO HCb.out (row_cell (j := 1) HRb.out rfl); have rd0 := cellO HCd.out (row_cell (j := 0) HRd.out rfl); have rd1 := cellO HCd.out (row_cell (j := 1) HRd.out rfl); have rk0 := cellO HCk.out (row_cell (j := 0) HRk.out rfl); have rk1 := cellO HCk.out (row_cell (j := 1) HRk.out rfl); clear hb))
      | (go_at_call 28; have _t := HW7; ((with_reducible refine (H6.out _ _ _ _ _ (btO HW7.out (belO w7 (.cells #[.slice kA dL.length kc, .slice kB dC.length kk] 38))) (HKo.out.below (btO (belO _ _) (btO HCo.out (belO w7 (.cells #[.slice kA dL.length kc, .slice kB dC.length kk] 38)))))).mono ?_); rintro u w8 ⟨rfl, hb⟩; clear v0 v1 f0 f1 f2 c0 c1 c2 c3 ro0 ro1 ra0 ra1 rb0 rb1 rd0 rd1 rk0 rk1; have HW8 := Lib.hid (btO (btO HW7.out (belO w7 (.cells #[.slice kA dL.length kc, .slice kB dC.length kk] 38))) hb); have HCo := Lib.hid (btO (btO HCo.out (belO w7 (.cells #[.slice kA dL.length kc, .slice kB dC.length kk] 38))) hb); have HCa := Lib.hid (btO (btO HCa.out (belO w7 (.cells #[.slice kA dL.length kc, .slice kB dC.length kk] 38))) hb); have HCb := Lib.hid (btO (btO HCb.out (belO w7 (.cells #[.slice kA dL.length kc, .slice kB dC.length kk] 38))) hb); have HCd := Lib.hid (btO (btO HCd.out (belO w7 (.cells #[.slice kA dL.length kc, .slice kB dC.length kk] 38))) hb); have HCk := Lib.hid hb; obtain ⟨v0, v1, f0, f1, f2, c0, c1, c2, c3⟩ := HG.out _ HW8.out; have ro0 := cellO HCo.out (row_cell (j := 0) HRo.out rfl); have ro1 := cellO HCo.out (row_cell (j := 1) HRo.out rfl); have ra0 := cellO HCa.out (row_cell (j := 0) HRa.out rfl); have ra1 := cellO HCa.out (row_cell (j := 1) HRa.out rfl); have rb0 := cellO HCb.out (row_cell (j := 0) HRb.out rfl); have rb1 := cellO HCb.out (row_cell (j := 1) HRb.out rfl); have rd0 := cellO HCd.out (row_cell (j := 0) HRd.out rfl); have rd1 := cellO HCd.out (row_cell (j := 1) HRd.out rfl); have rk0 := cellO HCk.out (row_cell (j := 0) HRk.out rfl); have rk1 := cellO HCk.out (row_cell (j := 1) HRk.out rfl); clear hb))
      | (go_at_call 27; have _t := HW6; ((with_reducible refine (H5.out _ (btO HW6.out (belO w6 (.cells #[.slice dA dL.length dc, .slice dB dC.length dk] 38)))).mono ?_); rintro u w7 ⟨kA, kc, kB, kk, rfl, hi, hb⟩; clear v0 v1 f0 f1 f2 c0 c1 c2 c3 ro0 ro1 ra0 ra1 rb0 rb1 rd0 rd1; have HW7 := Lib.hid (btO (btO HW6.out (belO w6 (.cells #[.slice dA dL.length dc, .slice dB dC.length dk] 38))) hb); have HCo := Lib.hid (btO (btO HCo.out (belO w6 (.cells #[.slice dA dL.length dc, .slice dB dC.length dk] 38))) hb); have HCa := Lib.hid (btO (btO HCa.out (belO w6 (.cells #[.slice dA dL.length dc, .slice dB dC.length dk] 38))) hb); have HCb := Lib.hid (btO (btO HCb.out (belO w6 (.cells #[.slice dA dL.length dc, .slice dB dC.length dk] 38))) hb); have HCd := Lib.hid hb; have HKk := Lib.hid hi; have HRk := Lib.hid (heap_alloc_new w7 (.cells #[.slice kA dL.length kc, .slice kB dC.length kk] 38)); obtain ⟨v0, v1, f0, f1, f2, c0, c1, c2, c3⟩ := HG.out _ (btO HW7.out (belO w7 (.cells #[.slice kA dL.length kc, .slice kB dC.length kk] 38))); have ro0 := cellO (btO HCo.out (belO w7 (.cells #[.slice kA dL.length kc, .slice kB dC.length kk] 38))) (row_cell (j := 0) HRo.out rfl); have ro1 := cellO (btO HCo.out (belO w7 (.cells #[.slice kA dL.length kc, .slice kB dC.length kk] 38))) (row_cell (j := 1) HRo.out rfl); have ra0 := cellO (btO HCa.out (belO w7 (.cells #[.slice kA dL.length kc, .slice kB dC.length kk] 38))) (row_cell (j := 0) HRa.out rfl); have ra1 := cellO (btO HCa.out (belO w7 (.cells #[.slice kA dL.length kc, .slice kB dC.length kk] 38))) (row_cell (j := 1) HRa.out rfl); have rb0 := cellO (btO HCb.out (belO w7 (.cells #[.slice kA dL.length kc, .slice kB dC.length kk] 38))) (row_cell (j := 0) HRb.out rfl); have rb1 := cellO (btO HCb.out (belO w7 (.cells #[.slice kA dL.length kc, .slice kB dC.length kk] 38))) (row_cell (j := 1) HRb.out rfl); have rd0 := cellO (btO HCd.out (belO w7 (.cells #[.slice kA dL.length kc, .slice kB dC.length kk] 38))) (row_cell (j := 0) HRd.out rfl); have rd1 := cellO (btO HCd.out (belO w7 (.cells #[.slice kA dL.length kc, .slice kB dC.length kk] 38))) (row_cell (j := 1) HRd.out rfl); have rk0 := row_cell (j := 0) HRk.out rfl; have rk1 := row_cell (j := 1) HRk.out rfl; clear hb hi))
      | (go_at_call 20; have _t := HW5; ((with_reducible refine (H4.out _ _ _ _ _ (btO HW5.out (belO w5 (.cells #[.slice bA aL.length bc, .slice bB aC.length bk] 38))) (HKo.out.below (btO (belO _ _) (btO HCo.out (belO w5 (.cells #[.slice bA aL.length bc, .slice bB aC.length bk] 38)))))).mono ?_); rintro u w6 ⟨dA, dc, dB, dk, rfl, hi, hk, hk2, hb⟩; have HSd := Lib.hid (btO HCo.out (belO w5 (.cells #[.slice bA aL.length bc, .slice bB aC.length bk] 38))).size; clear v0 v1 f0 f1 f2 c0 c1 c2 c3 ro0 ro1 ra0 ra1 rb0 rb1; have HW6 := Lib.hid (btO (btO HW5.out (belO w5 (.cells #[.slice bA aL.length bc, .slice bB aC.length bk] 38))) hb); have HCo := Lib.hid (btO (btO HCo.out (belO w5 (.cells #[.slice bA aL.length bc, .slice bB aC.length bk] 38))) hb); have HCa := Lib.hid (btO (btO HCa.out (belO w5 (.cells #[.slice bA aL.length bc, .slice bB aC.length bk] 38))) hb); have HCb := Lib.hid hb; have HKd := Lib.hid hi; have HFd := Lib.hid hk; have HHd := Lib.hid hk2; have HRd := Lib.hid (heap_alloc_new w6 (.cells #[.slice dA dL.length dc, .slice dB dC.length dk] 38)); obtain ⟨v0, v1, f0, f1, f2, c0, c1, c2, c3⟩ := HG.out _ (btO HW6.out (belO w6 (.cells #[.slice dA dL.length dc, .slice dB dC.length dk] 38))); have ro0 := cellO (btO HCo.out (belO w6 (.cells #[.slice dA dL.length dc, .slice dB dC.length dk] 38))) (row_cell (j := 0) HRo.out rfl); have ro1 := cellO (btO HCo.out (belO w6 (.cells #[.slice dA dL.length dc, .slice dB dC.length dk] 38))) (row_cell (j := 1) HRo.out rfl); have ra0 := cellO (btO HCa.out (belO w6 (.cells #[.slice dA dL.length dc, .slice dB dC.length dk] 38))) (row_cell (j := 0) HRa.out rfl); have ra1 := cellO (btO HCa.out (belO w6 (.cells #[.slice dA dL.length dc, .slice dB dC.length dk] 38))) (row_cell (j := 1) HRa.out rfl); have rb0 := cellO (btO HCb.out (belO w6 (.cells #[.slice dA dL.length dc, .slice dB dC.length dk] 38))) (row_cell (j := 0) HRb.out rfl); have rb1 := cellO (btO HCb.out (belO w6 (.cells #[.slice dA dL.length dc, .slice dB dC.length dk] 38))) (row_cell (j := 1) HRb.out rfl); have rd0 := row_cell (j := 0) HRd.out rfl; have rd1 := row_cell (j := 1) HRd.out rfl; clear hb hi hk hk2))
      | (go_at_call 26; have _t := HW4; ((with_reducible refine (H3.out _ (btO HW4.out (belO w4 (.cells #[.slice aA aL.length ac, .slice aB aC.length ak] 38)))).mono ?_); rintro u w5 ⟨bA, bc, bB, bk, rfl, hi, hb⟩; clear v0 v1 f0 f1 f2 c0 c1 c2 c3 ro0 ro1 ra0 ra1; have HW5 := Lib.hid (btO (btO HW4.out (belO w4 (.cells #[.slice aA aL.length ac, .slice aB aC.length ak] 38))) hb); have HCo := Lib.hid (btO (btO HCo.out (belO w4 (.cells #[.slice aA aL.length ac, .slice aB aC.length ak] 38))) hb); have HCa := Lib.hid hb; have HKb := Lib.hid hi; have HRb := Lib.hid (heap_alloc_new w5 (.cells #[.slice bA aL.length bc, .slice bB aC.length bk] 38)); obtain ⟨v0, v1, f0, f1, f2, c0, c1, c2, c3⟩ := HG.out _ (btO HW5.out (belO w5 (.cells #[.slice bA aL.length bc, .slice bB aC.length bk] 38))); have ro0 := cellO (btO HCo.out (belO w5 (.cells #[.slice bA aL.length bc, .slice bB aC.length bk] 38))) (row_cell (j := 0) HRo.out rfl); have ro1 := cellO (btO HCo.out (belO w5 (.cells #[.slice bA aL.length bc, .slice bB aC.length bk] 38))) (row_cell (j := 1) HRo.out rfl); have ra0 := cellO (btO HCa.out (belO w5 (.cells #[.slice bA aL.length bc, .slice bB aC.length bk] 38))) (row_cell (j := 0) HRa.out rfl); have ra1 := cellO (btO HCa.out (belO w5 (.cells #[.slice bA aL.length bc, .slice bB aC.length bk] 38))) (row_cell (j := 1) HRa.out rfl); have rb0 := row_cell (j := 0) HRb.out rfl; have rb1 := row_cell (j := 1) HRb.out rfl; clear hb hi))
      | (go_at_call 19; have _t := HW3; ((with_reducible refine (H2.out _ _ _ _ _ (btO HW3.out (belO w3 (.cells #[.slice oA E.fs.length oc, .slice oB E.cs.length ok] 38))) (HKo.out.below (belO w3 (.cells #[.slice oA E.fs.length oc, .slice oB E.cs.length ok] 38)))).mono ?_); rintro u w4 ⟨aA, ac, aB, ak, rfl, hi, hk, hk2, hb⟩; clear v0 v1 f0 f1 f2 c0 c1 c2 c3 ro0 ro1; have HW4 := Lib.hid (btO (btO HW3.out (belO w3 (.cells #[.slice oA E.fs.length oc, .slice oB E.cs.length ok] 38))) hb); have HCo := Lib.hid hb; have HKa := Lib.hid hi; have HFa := Lib.hid hk; have HHa := Lib.hid hk2; have HRa := Lib.hid (heap_alloc_new w4 (.cells #[.slice aA aL.length ac, .slice aB aC.length ak] 38)); obtain ⟨v0, v1, f0, f1, f2, c0, c1, c2, c3⟩ := HG.out _ (btO HW4.out (belO w4 (.cells #[.slice aA aL.length ac, .slice aB aC.length ak] 38))); have ro0 := cellO (btO HCo.out (belO w4 (.cells #[.slice aA aL.length ac, .slice aB aC.length ak] 38))) (row_cell (j := 0) HRo.out rfl); have ro1 := cellO (btO HCo.out (belO w4 (.cells #[.slice aA aL.length ac, .slice aB aC.length ak] 38))) (row_cell (j := 1) HRo.out rfl); have ra0 := row_cell (j := 0) HRa.out rfl; have ra1 := row_cell (j := 1) HRa.out rfl; clear hb hi hk hk2))
      | (go_at_call 25; have _t := HW2; ((with_reducible refine (H1.out _ (HW2.out)).mono ?_); rintro u w3 ⟨oA, oc, oB, ok, rfl, hi, hk, hk2, hb⟩; clear v0 v1 f0 f1 f2 c0 c1 c2 c3; have HW3 := Lib.hid (btO (HW2.out) hb); have HKo := Lib.hid (EvK.mk hi hk hk2); have HRo := Lib.hid (heap_alloc_new w3 (.cells #[.slice oA E.fs.length oc, .slice oB E.cs.length ok] 38)); obtain ⟨v0, v1, f0, f1, f2, c0, c1, c2, c3⟩ := HG.out _ (btO HW3.out (belO w3 (.cells #[.slice oA E.fs.length oc, .slice oB E.cs.length ok] 38))); have ro0 := row_cell (j := 0) HRo.out rfl; have ro1 := row_cell (j := 1) HRo.out rfl; clear hb hi hk hk2))
      | (go_at_call 24; have _t := HW1; ((with_reducible refine (Hg.out _ (HW1.out)).mono ?_); rintro u w2 ⟨rfl, hb⟩; clear v0 v1 f0 f1 f2 c0 c1 c2 c3; have HW2 := Lib.hid (btO (HW1.out) hb); obtain ⟨v0, v1, f0, f1, f2, c0, c1, c2, c3⟩ := HG.out _ HW2.out; clear hb)))
  clear hw1 q1 q2 q3 q4 v0 v1 f0 f1 f2 c0 c1 c2 c3 ro0 ro1 ra0 ra1 rb0 rb1 rd0 rd1 rk0 rk1
  have HA1 : Hid (∀ z : Bel w9, Calls Tryz.prog 22 #[.agg #[.slice oA E.fs.length oc, .slice oB E.cs.length ok]] z.1 (fun e w2 => e = .returned (.int .i64 ce) ∧ ∃ z2 : Bel w9, w2 = z2.1)) := fun z => Bel.calls (fun W hW => H8.out W _ _ _ _ (btO HW9.out hW) (HKo.out.below (btO (btO (belO _ _) HCo.out) hW))) z
  have HA2 : Hid (∀ z : Bel w9, Calls Tryz.prog 30 #[.agg #[.slice E.fA E.fs.length E.fc, .slice E.cA E.cs.length E.cc]] z.1 (fun e w2 => e = .returned (.int .i64 ce) ∧ ∃ z2 : Bel w9, w2 = z2.1)) := fun z => Bel.calls (fun W hW => H9.out W (btO HW9.out hW)) z
  have HA3 : Hid (∀ z : Bel w9, Calls Tryz.prog 31 #[.agg #[.slice aA aL.length ac, .slice aB aC.length ak], .agg #[.slice bA aL.length bc, .slice bB aC.length bk]] z.1 (fun e w2 => e = .returned (.bool true) ∧ ∃ z2 : Bel w9, w2 = z2.1)) := fun z => Bel.calls (fun W hW => Hs1.out W _ _ _ _ _ _ _ _ (btO HW9.out hW) (HKa.out.below (btO (btO (belO _ _) HCa.out) hW)) (HKb.out.below (btO (btO (belO _ _) HCb.out) hW))) z
  have HA4 : Hid (∀ z : Bel w9, Calls Tryz.prog 31 #[.agg #[.slice dA dL.length dc, .slice dB dC.length dk], .agg #[.slice kA dL.length kc, .slice kB dC.length kk]] z.1 (fun e w2 => e = .returned (.bool true) ∧ ∃ z2 : Bel w9, w2 = z2.1)) := fun z => Bel.calls (fun W hW => Hs2.out W _ _ _ _ _ _ _ _ (btO HW9.out hW) (HKd.out.below (btO (btO (belO _ _) HCd.out) hW)) (HKk.out.below (btO (btO (belO _ _) HCk.out) hW))) z
  obtain ⟨zv0, zv1, -, -, -, -, -, -, -⟩ := (HG.out _ HW9.out).zs
  have yo0 := fun z : Bel w9 => z.cell (cellO HCo.out (row_cell (j := 0) HRo.out rfl))
  have yo1 := fun z : Bel w9 => z.cell (cellO HCo.out (row_cell (j := 1) HRo.out rfl))
  have ya0 := fun z : Bel w9 => z.cell (cellO HCa.out (row_cell (j := 0) HRa.out rfl))
  have ya1 := fun z : Bel w9 => z.cell (cellO HCa.out (row_cell (j := 1) HRa.out rfl))
  have yb0 := fun z : Bel w9 => z.cell (cellO HCb.out (row_cell (j := 0) HRb.out rfl))
  have yb1 := fun z : Bel w9 => z.cell (cellO HCb.out (row_cell (j := 1) HRb.out rfl))
  have yd0 := fun z : Bel w9 => z.cell (cellO HCd.out (row_cell (j := 0) HRd.out rfl))
  have yd1 := fun z : Bel w9 => z.cell (cellO HCd.out (row_cell (j := 1) HRd.out rfl))
  have yk0 := fun z : Bel w9 => z.cell (cellO HCk.out (row_cell (j := 0) HRk.out rfl))
  have yk1 := fun z : Bel w9 => z.cell (cellO HCk.out (row_cell (j := 1) HRk.out rfl))
  refine wp_region_bel (by kernel_rfl) (by kernel_rfl) ?_
  repeat (go_big_quiet_step (first
    | (go_at_call 22; with_reducible exact HA1.out _)
    | (go_at_call 30; with_reducible exact HA2.out _)
    | (go_at_call 31; with_reducible exact HA3.out _)
    | (go_at_call 31; with_reducible exact HA4.out _)))
  refine wpQuiet_nil ?_
  rintro _ ⟨zz, rfl⟩
  have HW10 := Lib.hid (btO HW9.out zz.2)
  replace HCo := Lib.hid (btO HCo.out zz.2)
  replace HCa := Lib.hid (btO HCa.out zz.2)
  replace HCb := Lib.hid (btO HCb.out zz.2)
  replace HCd := Lib.hid (btO HCd.out zz.2)
  replace HCk := Lib.hid (btO HCk.out zz.2)
  clear yo0 yo1 ya0 ya1 yb0 yb1 yd0 yd1 yk0 yk1 zv0 zv1 HA1 HA2 HA3 HA4
  generalize zz.1 = w10 at *
  clear zz
  have HA5 : Hid (∀ z : Bel w10, Calls Tryz.prog 32 #[.agg #[.slice oA E.fs.length oc, .slice oB E.cs.length ok], .string cp, .string cn, .int .i64 cd] z.1 (fun e w2 => e = .returned (.bool xb) ∧ ∃ z2 : Bel w10, w2 = z2.1)) := fun z => Bel.calls (fun W hW => Hx1.out W _ _ _ _ (btO HW10.out hW) (HKo.out.below (btO (btO (belO _ _) HCo.out) hW))) z
  have HA6 : Hid (∀ z : Bel w10, Calls Tryz.prog 33 #[.agg #[.slice E.fA E.fs.length E.fc, .slice E.cA E.cs.length E.cc], .string cp, .string cn, .int .i64 cd] z.1 (fun e w2 => e = .returned (.bool xb) ∧ ∃ z2 : Bel w10, w2 = z2.1)) := fun z => Bel.calls (fun W hW => Hx2.out W (btO HW10.out hW)) z
  go_wp2_with (fail)
  obtain ⟨zv0, zv1, -, -, -, zc0, zc1, zc2, -⟩ := (HG.out _ HW10.out).zs
  have yo0 := fun z : Bel w10 => z.cell (cellO HCo.out (row_cell (j := 0) HRo.out rfl))
  have yo1 := fun z : Bel w10 => z.cell (cellO HCo.out (row_cell (j := 1) HRo.out rfl))
  have ya0 := fun z : Bel w10 => z.cell (cellO HCa.out (row_cell (j := 0) HRa.out rfl))
  have ya1 := fun z : Bel w10 => z.cell (cellO HCa.out (row_cell (j := 1) HRa.out rfl))
  have yb0 := fun z : Bel w10 => z.cell (cellO HCb.out (row_cell (j := 0) HRb.out rfl))
  have yb1 := fun z : Bel w10 => z.cell (cellO HCb.out (row_cell (j := 1) HRb.out rfl))
  have yd0 := fun z : Bel w10 => z.cell (cellO HCd.out (row_cell (j := 0) HRd.out rfl))
  have yd1 := fun z : Bel w10 => z.cell (cellO HCd.out (row_cell (j := 1) HRd.out rfl))
  have yk0 := fun z : Bel w10 => z.cell (cellO HCk.out (row_cell (j := 0) HRk.out rfl))
  have yk1 := fun z : Bel w10 => z.cell (cellO HCk.out (row_cell (j := 1) HRk.out rfl))
  refine wp_region_bel (by kernel_rfl) (by kernel_rfl) ?_
  repeat (go_big_quiet_step (first
    | (go_at_call 32; with_reducible exact HA5.out _)
    | (go_at_call 33; with_reducible exact HA6.out _)))
  refine wpQuiet_nil ?_
  rintro _ ⟨zz, rfl⟩
  have HW11 := Lib.hid (btO HW10.out zz.2)
  replace HCo := Lib.hid (btO HCo.out zz.2)
  replace HCa := Lib.hid (btO HCa.out zz.2)
  replace HCb := Lib.hid (btO HCb.out zz.2)
  replace HCd := Lib.hid (btO HCd.out zz.2)
  replace HCk := Lib.hid (btO HCk.out zz.2)
  clear yo0 yo1 ya0 ya1 yb0 yb1 yd0 yd1 yk0 yk1 zv0 zv1 zc0 zc1 zc2 HA5 HA6
  generalize zz.1 = w11 at *
  clear zz
  have s3 : (w3.alloc (.cells #[.slice oA E.fs.length oc, .slice oB E.cs.length ok] 38)).heap.size = w3.heap.size + 1 := World.size_alloc _ _
  have hsd := HSd.out
  rw [s3] at hsd
  have hbn : w3.heap.size + 1 ≤ w11.heap.size := by have := HCo.out.size; rw [s3] at this; exact this
  have HBN := Lib.hid hbn
  have HS3 := Lib.hid s3
  have HE0 : Hid (EnW (w3.heap.size + 1) w11.heap.size w11 aA aB dA dB (aL.length * 3) (aC.length * 4) (dL.length * 3) (dC.length * 4) w11) := ⟨Below.refl _ _, (RowW.mono (HFa.out.below (btO (belO _ _) HCa.out)) (by rw [s3]; exact Nat.le_refl _) (btO (belO _ _) HCa.out).size), (RowW.mono (HHa.out.below (btO (belO _ _) HCa.out)) (by rw [s3]; exact Nat.le_refl _) (btO (belO _ _) HCa.out).size), (RowW.mono (HFd.out.below (btO (belO _ _) HCd.out)) (hsd) (btO (belO _ _) HCd.out).size), (RowW.mono (HHd.out.below (btO (belO _ _) HCd.out)) (hsd) (btO (belO _ _) HCd.out).size)⟩
  have HE1 : Hid (EnA (w3.heap.size + 1) w11.heap.size w11 aA aB dA dB (aL.length * 3) (aC.length * 4) (dL.length * 3) (dC.length * 4) 38 #[.slice aA aL.length ac, .slice aB aC.length ak, .slice dA dL.length dc, .slice dB dC.length dk] (w11.alloc (.cells #[.slice aA aL.length ac, .slice aB aC.length ak, .slice dA dL.length dc, .slice dB dC.length dk] 38))) := ⟨HE0.out.below hbn (belO _ _), heap_alloc_new w11 _, hbn⟩
  clear hsd hbn s3
  have ra0 := cellO HCa.out (row_cell (j := 0) HRa.out rfl)
  have ra1 := cellO HCa.out (row_cell (j := 1) HRa.out rfl)
  have rd0 := cellO HCd.out (row_cell (j := 0) HRd.out rfl)
  have rd1 := cellO HCd.out (row_cell (j := 1) HRd.out rfl)
  go_wp2_with (fail)
  clear ra0 ra1 rd0 rd1
  generalize w11.alloc (.cells #[.slice aA aL.length ac, .slice aB aC.length ak, .slice dA dL.length dc, .slice dB dC.length dk] 38) = w12 at *
  go_loopw [154] (fun i wr => ∃ (k : Nat), k ≤ 2 ∧ i = .int .i64 k ∧ Hid (EnA (w3.heap.size + 1) w11.heap.size w11 aA aB dA dB (aL.length * 3) (aC.length * 4) (dL.length * 3) (dC.length * 4) 38 #[.slice aA aL.length ac, .slice aB aC.length ak, .slice dA dL.length dc, .slice dB dC.length dk] wr)) (fun i _ => 2 - (intOf i).toNat)
  case atStart => exact ⟨0, by omega, rfl, HE1.out⟩
  case round =>
    obtain ⟨k, hk, rfl, HE⟩ := hrel
    rename World => wo
    have hk : k = 0 ∨ k = 1 ∨ k = 2 := by omega
    rcases hk with rfl | rfl | rfl
    · have q0 := row_cell (j := 0) HE.out.a rfl
      have q1 := row_cell (j := 1) HE.out.a rfl
      have HZ := Lib.hid (HE.out.box #[.slice aA aL.length ac, .slice aB aC.length ak])
      go_wp2_with (fail)
      clear q0 q1
      generalize wo.alloc (.cells #[.slice aA aL.length ac, .slice aB aC.length ak] 38) = wz at *
      go_loopw [23] (fun i wi => ∃ (n : Nat), n ≤ aL.length ∧ i = .int .i64 n ∧ Hid (EnZ (w3.heap.size + 1) w11.heap.size w11 aA aB dA dB (aL.length * 3) (aC.length * 4) (dL.length * 3) (dC.length * 4) 38 #[.slice aA aL.length ac, .slice aB aC.length ak, .slice dA dL.length dc, .slice dB dC.length dk] wo.heap.size #[.slice aA aL.length ac, .slice aB aC.length ak] wi)) (fun i _ => aL.length - (intOf i).toNat)
      case atStart => exact ⟨0, by omega, rfl, HZ.out⟩
      case round =>
        obtain ⟨n, hn, rfl, HZ⟩ := hrel
        have u0 := row_cell (j := 0) HZ.out.z rfl
        by_cases hlt : n < aL.length
        · obtain ⟨gg, hgg, hgB, hgN, ⟨u, hu⟩, hf⟩ := HZ.out.e.e.r0.at (i := n * 3 + 1) (by omega)
          subst hgg
          have HGB := Lib.hid hgB
          have HGN := Lib.hid hgN
          have n0 : (0 : Int) ≤ (n : Int) := by omega
          have n1 : (n : Int) < (aL.length : Int) := by omega
          clear hgB hgN
          go_wp2_with (fail)
          go_roundw
          all_goals first
            | exact ⟨n + 1, by omega, by go_num, HZ.out.set HGB.out HGN.out _ _⟩
            | (simp [intOf]; omega)
        · obtain rfl : n = aL.length := by omega
          clear hlt hn
          go_wp2_with (fail)
          clear u0
          go_loopw [24] (fun i wi => ∃ (n : Nat), n ≤ aC.length ∧ i = .int .i64 n ∧ Hid (EnZ (w3.heap.size + 1) w11.heap.size w11 aA aB dA dB (aL.length * 3) (aC.length * 4) (dL.length * 3) (dC.length * 4) 38 #[.slice aA aL.length ac, .slice aB aC.length ak, .slice dA dL.length dc, .slice dB dC.length dk] wo.heap.size #[.slice aA aL.length ac, .slice aB aC.length ak] wi)) (fun i _ => aC.length - (intOf i).toNat)
          case atStart => exact ⟨0, by omega, rfl, HZ.out⟩
          case round =>
            obtain ⟨n, hn, rfl, HZ⟩ := hrel
            have u1 := row_cell (j := 1) HZ.out.z rfl
            by_cases hlt : n < aC.length
            · obtain ⟨gg, hgg, hgB, hgN, ⟨u, hu⟩, hf⟩ := HZ.out.e.e.r1.at (i := n * 4 + 2) (by omega)
              subst hgg
              have HGB := Lib.hid hgB
              have HGN := Lib.hid hgN
              have n0 : (0 : Int) ≤ (n : Int) := by omega
              have n1 : (n : Int) < (aC.length : Int) := by omega
              clear hgB hgN
              go_wp2_with (fail)
              go_roundw
              all_goals first
                | exact ⟨n + 1, by omega, by go_num, HZ.out.set HGB.out HGN.out _ _⟩
                | (simp [intOf]; omega)
            · obtain rfl : n = aC.length := by omega
              clear hlt hn
              go_wp2_with (fail)
              clear u1
              go_roundw
              all_goals first
                | exact ⟨1, by omega, rfl, HZ.out.e⟩
                | (simp [intOf]; done)
    · have q0 := row_cell (j := 2) HE.out.a rfl
      have q1 := row_cell (j := 3) HE.out.a rfl
      have HZ := Lib.hid (HE.out.box #[.slice dA dL.length dc, .slice dB dC.length dk])
      go_wp2_with (fail)
      clear q0 q1
      generalize wo.alloc (.cells #[.slice dA dL.length dc, .slice dB dC.length dk] 38) = wz at *
      go_loopw [23] (fun i wi => ∃ (n : Nat), n ≤ dL.length ∧ i = .int .i64 n ∧ Hid (EnZ (w3.heap.size + 1) w11.heap.size w11 aA aB dA dB (aL.length * 3) (aC.length * 4) (dL.length * 3) (dC.length * 4) 38 #[.slice aA aL.length ac, .slice aB aC.length ak, .slice dA dL.length dc, .slice dB dC.length dk] wo.heap.size #[.slice dA dL.length dc, .slice dB dC.length dk] wi)) (fun i _ => dL.length - (intOf i).toNat)
      case atStart => exact ⟨0, by omega, rfl, HZ.out⟩
      case round =>
        obtain ⟨n, hn, rfl, HZ⟩ := hrel
        have u0 := row_cell (j := 0) HZ.out.z rfl
        by_cases hlt : n < dL.length
        · obtain ⟨gg, hgg, hgB, hgN, ⟨u, hu⟩, hf⟩ := HZ.out.e.e.r2.at (i := n * 3 + 1) (by omega)
          subst hgg
          have HGB := Lib.hid hgB
          have HGN := Lib.hid hgN
          have n0 : (0 : Int) ≤ (n : Int) := by omega
          have n1 : (n : Int) < (dL.length : Int) := by omega
          clear hgB hgN
          go_wp2_with (fail)
          go_roundw
          all_goals first
            | exact ⟨n + 1, by omega, by go_num, HZ.out.set HGB.out HGN.out _ _⟩
            | (simp [intOf]; omega)
        · obtain rfl : n = dL.length := by omega
          clear hlt hn
          go_wp2_with (fail)
          clear u0
          go_loopw [24] (fun i wi => ∃ (n : Nat), n ≤ dC.length ∧ i = .int .i64 n ∧ Hid (EnZ (w3.heap.size + 1) w11.heap.size w11 aA aB dA dB (aL.length * 3) (aC.length * 4) (dL.length * 3) (dC.length * 4) 38 #[.slice aA aL.length ac, .slice aB aC.length ak, .slice dA dL.length dc, .slice dB dC.length dk] wo.heap.size #[.slice dA dL.length dc, .slice dB dC.length dk] wi)) (fun i _ => dC.length - (intOf i).toNat)
          case atStart => exact ⟨0, by omega, rfl, HZ.out⟩
          case round =>
            obtain ⟨n, hn, rfl, HZ⟩ := hrel
            have u1 := row_cell (j := 1) HZ.out.z rfl
            by_cases hlt : n < dC.length
            · obtain ⟨gg, hgg, hgB, hgN, ⟨u, hu⟩, hf⟩ := HZ.out.e.e.r3.at (i := n * 4 + 2) (by omega)
              subst hgg
              have HGB := Lib.hid hgB
              have HGN := Lib.hid hgN
              have n0 : (0 : Int) ≤ (n : Int) := by omega
              have n1 : (n : Int) < (dC.length : Int) := by omega
              clear hgB hgN
              go_wp2_with (fail)
              go_roundw
              all_goals first
                | exact ⟨n + 1, by omega, by go_num, HZ.out.set HGB.out HGN.out _ _⟩
                | (simp [intOf]; omega)
            · obtain rfl : n = dC.length := by omega
              clear hlt hn
              go_wp2_with (fail)
              clear u1
              go_roundw
              all_goals first
                | exact ⟨2, by omega, rfl, HZ.out.e⟩
                | (simp [intOf]; done)
    · have hw1 : w1.heap.size ≤ w3.heap.size + 1 := by have := HW3.out.size; omega
      have HBf := Lib.hid (HE.out.e.b)
      have HWf := Lib.hid (HW11.out.trans (HBf.out.mono hw1))
      have HCf : Hid (Below (w3.alloc (.cells #[.slice oA E.fs.length oc, .slice oB E.cs.length ok] 38)).heap.size (w3.alloc (.cells #[.slice oA E.fs.length oc, .slice oB E.cs.length ok] 38)) wo) := HCo.out.trans (HBf.out.mono (Nat.le_of_eq HS3.out))
      have hq : w.heap.size < w3.heap.size + 1 := by have := HLT.out; omega
      obtain ⟨v0, v1, -, -, -, -, -, -, -⟩ := HG.out _ HW11.out
      have v0 := (HBf.out.cell (p := ⟨w.heap.size, 0, none⟩) hq).trans v0
      have v1 := (HBf.out.cell (p := ⟨w.heap.size, 1, none⟩) hq).trans v1
      have ro0 := cellO HCf.out (row_cell (j := 0) HRo.out rfl)
      have ro1 := cellO HCf.out (row_cell (j := 1) HRo.out rfl)
      clear hq hw1
      go_wp2_with (go_at_call 31; ((with_reducible refine (Hs3.out _ _ _ _ _ HWf.out (HKo.out.i.below (btO (belO _ _) HCf.out))).mono ?_); rintro u w20 ⟨rfl, hb⟩; have HW20 := Lib.hid (btO HWf.out hb); clear hb))
      go_ret
      exact ⟨rfl, btO HB.out HW20.out⟩
end Go.Proofs.YtbfimfjhdbpenaaGreatDoor
/- The law ObservableEnvs. -/
namespace Go.Proofs.YtbfimfjhdbpenaaGreatDoor
open Go Go.RowKit
theorem envs_law8 (E : Ev) (fn fv cp cn : ByteArray) (fd cd : Int) (cb : Bool) (w : World) (hin : E.In w) (hv : VarR w) (z1 : fn.size ≤ 140737488351232) (z2 : fv.size ≤ 140737488351232) (z3 : cp.size ≤ 140737488351232) (z4 : cn.size ≤ 140737488351232) :
    Calls Tryz.prog 4 #[E.val, .agg #[.string fn, .int .i64 fd, .string fv], .agg #[.string cp, .string cn, .int .i64 cd, .bool cb]] w (BoolRO true w) := by
  have hg : ∀ W, Below w.heap.size w W → Calls Tryz.prog 24 #[E.val] W (BoolRO E.grt W) := fun W hW => greatEnv_any E W (hin.below hW)
  cases gv : E.grt
  · rw [gv] at hg
    by_cases q1 : 1000 < (fn.size : Int)
    · exact envs_out E fn fv cp cn fd cd cb false w hg (.inr (.inl ⟨rfl, q1⟩))
    by_cases q2 : 3000 < (fv.size : Int)
    · exact envs_out E fn fv cp cn fd cd cb false w hg (.inr (.inr (.inl ⟨rfl, q1, q2⟩)))
    by_cases q3 : 1000 < (cp.size : Int)
    · exact envs_out E fn fv cp cn fd cd cb false w hg (.inr (.inr (.inr (.inl ⟨rfl, q1, q2, q3⟩))))
    by_cases q4 : 1000 < (cn.size : Int)
    · exact envs_out E fn fv cp cn fd cd cb false w hg (.inr (.inr (.inr (.inr ⟨rfl, q1, q2, q3, q4⟩))))
    obtain ⟨l1, l2, s1, s2⟩ := Ev.grt_not gv
    have hsf : ∀ f ∈ E.fs, f.2.2.size ≤ 1048576 := fun f hf => by have := (s1 f hf).2; omega
    have hF : ShF E.fs := fun f hf => ⟨by have := (s1 f hf).1; omega, by have := (s1 f hf).2; omega⟩
    have hC : ShC E.cs := fun c hc => ⟨by have := (s2 c hc).1; omega, by have := (s2 c hc).2; omega⟩
    have hv1 : fv.size ≤ 1048576 := by omega
    exact envs_main E fn fv cp cn fd cd cb (putFL E.fs E.cs (fn, fd, fv)) (choFL E.fs E.cs (cp, cn, cd, cb)) (putFC E.fs E.cs (fn, fd, fv)) (choCL E.fs E.cs (cp, cn, cd, cb)) (putFE E.fs E.cs (fn, fd, fv)) (choE E.fs E.cs (cp, cn, cd, cb)) (envE E.fs E.cs) (fndV E.fs fn fd) (fndB E.fs fn fd) (chsB E.cs cp cn cd) w
      (putFL_len _ _ _) (putFC_len _ _ _) (choFL_len _ _ _) (choCL_len _ _ _) hg
      (fun W hW => twinEnv_any E W (hin.below hW) l1 l2)
      (fun W oA oc oB ok hW hk => (pput_any ⟨oA, E.fs, oc, oB, E.cs, ok⟩ fn fv fd W hk.i (hv.below hW) hsf hk.k hv1).mono fun _ _ h => PutO.evO h (putFL_len _ _ _) (putFC_len _ _ _) (hF.put z1 hv1).big hC.put)
      (fun W hW => rput_any E fn fv fd W (hin.below hW) hsf z1 hv1)
      (fun W oA oc oB ok hW hk => (pchoose_any ⟨oA, E.fs, oc, oB, E.cs, ok⟩ cp cn cd cb W hk.i (hv.below hW) hsf hk.k2).mono fun _ _ h => PutO.evO h (choFL_len _ _ _) (choCL_len _ _ _) hF.cho.big (hC.cho z3 z4))
      (fun W hW => rchoose_any E cp cn cd cb W (hin.below hW) hsf z4 z3)
      (fun W oA oc oB ok _ hk => pfind_anyO ⟨oA, E.fs, oc, oB, E.cs, ok⟩ fn fd W hk.i)
      (fun W hW => rfind_any E fn fd W (hin.below hW))
      (fun W oA oc oB ok hW hk => pcheckEnv_any ⟨oA, E.fs, oc, oB, E.cs, ok⟩ W hk.i (hv.below hW) hsf)
      (fun W hW => rcheckEnv_any E W (hin.below hW) hsf)
      (fun W aA ac aB ak bA bc bB bk _ i1 i2 => sameEnv_any ⟨aA, _, ac, aB, _, ak⟩ ⟨bA, _, bc, bB, _, bk⟩ true ⟨fun _ => ⟨rfl, rfl⟩, fun _ => rfl⟩ W i1 i2)
      (fun W dA dc dB dk kA kc kB kk _ i1 i2 => sameEnv_any ⟨dA, _, dc, dB, _, dk⟩ ⟨kA, _, kc, kB, _, kk⟩ true ⟨fun _ => ⟨rfl, rfl⟩, fun _ => rfl⟩ W i1 i2)
      (fun W oA oc oB ok _ hk => pchosen_anyO ⟨oA, E.fs, oc, oB, E.cs, ok⟩ cp cn cd W hk.i)
      (fun W hW => rchosen_any E cp cn cd W (hin.below hW))
      (fun W oA oc oB ok hW hi => sameEnv_any ⟨oA, E.fs, oc, oB, E.cs, ok⟩ E true ⟨fun _ => ⟨rfl, rfl⟩, fun _ => rfl⟩ W hi (hin.below hW))
      q1 q2 q3 q4
  · rw [gv] at hg
    exact envs_out E fn fv cp cn fd cd cb true w hg (.inl ⟨rfl, trivial⟩)
end Go.Proofs.YtbfimfjhdbpenaaGreatDoor

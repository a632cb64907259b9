/- Joined: OeG, OeL2, OeL3. -/
import Derived.Test.YtceooffedkalnaaGreatDoorPu27
import Derived.Test.YtceooffedkalnaaGreatDoorPu29
import Derived.Test.YtceooffedkalnaaGreatDoorPu18
import Derived.Test.YtceooffedkalnaaGreatDoorPu23
import Derived.Test.YtceooffedkalnaaGreatDoorPu22
/- Layer 8: the law's own function alive. -/
namespace Go.Proofs.YtceooffedkalnaaGreatDoor
open Go Go.RowKit Go.BigFrame
theorem valN_er {t u : Ex} (h : t.er = u.er) (day : Int) (fs : List Fx) (cs : List Cx) : valN t day fs cs = valN u day fs cs := by
  have h1 : t.siz = u.siz := Ex.fold_same _ h
  have h2 : t.dep = u.dep := Ex.fold_same _ h
  have h3 : t.srt = u.srt := Ex.fold_same _ h
  have h4 : t.ev fs day = u.ev fs day := Ex.fold_same _ h
  have h5 : t.k = u.k := by
    obtain ⟨k, r, n, d, A, c, s⟩ := t
    obtain ⟨k', r', n', d', A', c', s'⟩ := u
    exact (Ex.er_eq.1 h).1
  unfold valN askE Ex.chk Ex.many
  rw [h1, h2, h3, h4, h5]
def aF : Fx := (⟨#[115, 112, 111, 116]⟩, 5, ⟨#[55, 47, 50]⟩)
def aT (A B : Option Addr) (c d : Nat) : Ex := .mk 7 ⟨#[]⟩ ⟨#[]⟩ 0 A c [.mk 5 ⟨#[]⟩ ⟨#[]⟩ 0 B d [nowT ⟨#[115, 112, 111, 116]⟩, conT ⟨#[51]⟩], conT ⟨#[48]⟩]
theorem aT_er (A B : Option Addr) (c d : Nat) : (aT A B c d).er = (aT none none 0 0).er := rfl
theorem al1 : putFE [] [] aF = 0 := by decide +kernel
theorem al2 : putFL [] [] aF = [aF] ∧ putFC [] [] aF = [] := by decide +kernel
theorem al3 : valN (aT none none 0 0) 5 [aF] [] = (⟨#[49, 47, 50]⟩, 0) := by decide +kernel
theorem al4 : valN (aT none none 0 0) 6 [aF] [] = (⟨#[]⟩, 30) := by decide +kernel
theorem aT_siz (A B : Option Addr) (c d : Nat) : (aT A B c d).siz = 5 := rfl
theorem aT_byt (A B : Option Addr) (c d : Nat) : (aT A B c d).byt = 6 := rfl
abbrev aE (A : Option Addr) (c : Nat) (A2 : Option Addr) (c2 : Nat) : Ev := ⟨A, [aF], c, A2, [], c2⟩
def APut (w : World) (e : Ending) (w' : World) : Prop := ∃ A c A2 c2, e = .returned (.tuple #[.agg #[.slice A 1 c, .slice A2 0 c2], .int .i64 0]) ∧ (aE A c A2 c2).Inv w' ∧ Below w.heap.size w w'
theorem alive_put (w : World) (hv : VarR w) : Calls Tryz.prog 19 #[.agg #[.slice none 0 0, .slice none 0 0], .agg #[.string ⟨#[115, 112, 111, 116]⟩, .int .i64 5, .string ⟨#[55, 47, 50]⟩]] w (APut w) := by
  have h := pput_any ⟨none, [], 0, none, [], 0⟩ aF.1 aF.2.2 aF.2.1 w ⟨RowsR.nil, RowsR.nil, Nat.zero_le _, Nat.zero_le _, fun f hf => by simp at hf, fun f hf => by simp at hf⟩ hv (fun f hf => by simp at hf) ⟨Nat.le_refl _, Nat.zero_le _, fun _ => rfl⟩ (by decide)
  refine h.mono fun e w' hp => ?_
  have hp : PutO (putFL [] [] aF) (putFC [] [] aF) (putFE [] [] aF) w e w' := hp
  rw [al1, al2.1, al2.2] at hp
  obtain ⟨A, c, A2, c2, h1, h2, -, -, -, -, h3⟩ := hp.ev (by simp) (by simp) (fun f hf => by simp at hf; subst hf; decide) (fun f hf => by simp at hf)
  exact ⟨A, c, A2, c2, h1, ⟨h2, hv.below h3⟩, h3⟩
theorem alive_val (b1 b2 : Nat) (A : Option Addr) (c : Nat) (A2 : Option Addr) (c2 : Nat) (day : Int) (v : ByteArray) (g : Int) (hd : valN (aT none none 0 0) day [aF] [] = (v, g)) (W : World) (hT : (pairT 7 b2 (pairT 5 b1 (nowT ⟨#[115, 112, 111, 116]⟩) (conT ⟨#[51]⟩)) (conT ⟨#[48]⟩)).In W) (hE : (aE A c A2 c2).Inv W) :
    Calls Tryz.prog 17 #[(pairT 7 b2 (pairT 5 b1 (nowT ⟨#[115, 112, 111, 116]⟩) (conT ⟨#[51]⟩)) (conT ⟨#[48]⟩)).val, .int .i64 day, .agg #[.slice A 1 c, .slice A2 0 c2]] W (StE v g W) := by
  have h := pvalue_any (aT (some ⟨b2, 0, none⟩) (some ⟨b1, 0, none⟩) 2 2) (aE A c A2 c2) day W hT hE (by rw [aT_siz]; decide) (by rw [aT_byt]; decide) (fun f hf => by simp at hf; subst hf; decide)
  have e : valN (aT (some ⟨b2, 0, none⟩) (some ⟨b1, 0, none⟩) 2 2) day (aE A c A2 c2).fs (aE A c A2 c2).cs = (v, g) := (valN_er (aT_er _ _ _ _) _ _ _).trans hd
  rw [e] at h
  exact h
set_option maxRecDepth 100000 in
set_option maxHeartbeats 6400000 in
theorem alive_any8 (w : World) (hv : VarR w) : Calls Tryz.prog 23 #[] w (BoolRO true w) := by
  have HP := Lib.hid (alive_put w hv)
  have HC := Lib.hid con_any8
  have HN := Lib.hid now_any8
  have HQ := Lib.hid pair_any8
  have HV := Lib.hid alive_val
  clear hv
  go_enter Tryz.func23, Tryz.ntmps23
  go_wp2_with (first
    | (go_at_call 17; have _t := HW9; ((with_reducible refine (HV6.out _ (T2.out.below HX9.out) IE9.out).mono ?_); rintro u w10 ⟨rfl, hb⟩; have HW10 := Lib.hid (btO HW9.out hb); clear hb))
    | (go_at_call 17; ((with_reducible refine (HV5.out _ (T2.out.below (belO _ _)) (IE.out.below (btO (btO (belO w2 _) HA7.out) (belO _ _)))).mono ?_); rintro u w9 ⟨rfl, hb⟩; have HX9 := Lib.hid (btO (belO w7 _) hb); have HT := heap_alloc_new w7 (.cells #[.int .u8 T.k, .string T.r, .string T.n, .int .i64 T.d, .slice T.A T.sub.length T.c] 26); have l0 := cellO hb (row_cell (j := 0) HT rfl); have l1 := cellO hb (row_cell (j := 1) HT rfl); have l2 := cellO hb (row_cell (j := 2) HT rfl); have l3 := cellO hb (row_cell (j := 3) HT rfl); have l4 := cellO hb (row_cell (j := 4) HT rfl); have q0 := cellO hb (d0 (.cells #[.int .u8 T.k, .string T.r, .string T.n, .int .i64 T.d, .slice T.A T.sub.length T.c] 26)); have q1 := cellO hb (d1 (.cells #[.int .u8 T.k, .string T.r, .string T.n, .int .i64 T.d, .slice T.A T.sub.length T.c] 26)); have IE9 := Lib.hid (IE.out.below (btO (btO (belO w2 _) HA7.out) HX9.out)); have HW9 := Lib.hid (btO HW7.out HX9.out); clear hb HT d0 d1))
    | (go_at_call 12; have _t := HW6; ((with_reducible refine (HQ.out 7 (by decide) (by decide) _ (conT ⟨#[48]⟩) _ T1.out (conT_in _ (by decide))).mono ?_); rintro u w7 ⟨b2, rfl, ht, hb⟩; have HW7 := Lib.hid (btO HW6.out hb); have HA7 := Lib.hid (btO HA6.out hb); have T2 := Lib.hid ht; have HV5 := Lib.hid (fun W h1 h2 => HV.out b1 b2 A c A2 c2 5 _ _ al3 W h1 h2); have HV6 := Lib.hid (fun W h1 h2 => HV.out b1 b2 A c A2 c2 6 _ _ al4 W h1 h2); have d0 := fun o : Obj => cellO (belO w7 o) (cellO HA7.out (row_cell (j := 0) HR.out rfl)); have d1 := fun o : Obj => cellO (belO w7 o) (cellO HA7.out (row_cell (j := 1) HR.out rfl)); clear ht hb; generalize pairT 7 b2 (pairT 5 b1 (nowT ⟨#[115, 112, 111, 116]⟩) (conT ⟨#[51]⟩)) (conT ⟨#[48]⟩) = T at *))
    | (go_at_call 11; have _t := HW5; ((with_reducible refine (HC.out _ _).mono ?_); rintro u w6 ⟨rfl, hb⟩; have HW6 := Lib.hid (btO HW5.out hb); have HA6 := Lib.hid (btO HA5.out hb); have T1 := Lib.hid (T0.out.below hb); clear hb))
    | (go_at_call 12; ((with_reducible refine (HQ.out 5 (by decide) (by decide) (nowT ⟨#[115, 112, 111, 116]⟩) (conT ⟨#[51]⟩) _ (nowT_in _ (by decide)) (conT_in _ (by decide))).mono ?_); rintro u w5 ⟨b1, rfl, ht, hb⟩; have T0 := Lib.hid ht; have HW5 := Lib.hid (btO HW4.out hb); have HA5 := Lib.hid (btO HA4.out hb); clear ht hb))
    | (go_at_call 11; ((with_reducible refine (HC.out _ _).mono ?_); rintro u w4 ⟨rfl, hb⟩; have HW4 := Lib.hid (btO HW3.out hb); have HA4 := Lib.hid (btO HA3.out hb); clear hb))
    | (go_at_call 16; ((with_reducible refine (HN.out _ _).mono ?_); rintro u w3 ⟨rfl, hb⟩; have HA3 := Lib.hid hb; have HW3 := Lib.hid (btO HW2.out (btO (belO w2 _) hb)); clear hb))
    | (go_at_call 19; ((with_reducible refine HP.out.mono ?_); rintro u w2 ⟨A, c, A2, c2, rfl, he, hb⟩; have IE := Lib.hid he; have HW2 := Lib.hid hb; have HR := Lib.hid (heap_alloc_new w2 (.cells #[.slice A 1 c, .slice A2 0 c2] 38)); clear he hb)))
  go_ret
  exact ⟨rfl, HW10.out⟩
end Go.Proofs.YtceooffedkalnaaGreatDoor
/- The law ObservablePuts: the walk. -/
namespace Go.Proofs.YtceooffedkalnaaGreatDoor
open Go Go.RowKit Go.BigFrame
def EvP (L : List Fx) (C : List Cx) (g : Int) (w : World) (x : Ending) (w' : World) : Prop := ∃ A c A2 c2, x = .returned (.tuple #[.agg #[.slice A L.length c, .slice A2 C.length c2], .int .i64 g]) ∧ Ev.In w' ⟨A, L, c, A2, C, c2⟩ ∧ CapR A L.length c ∧ CapR A2 C.length c2 ∧ Below w.heap.size w w'
structure EvK (w : World) (A : Option Addr) (L : List Fx) (c : Nat) (A2 : Option Addr) (C : List Cx) (c2 : Nat) : Prop where
  i : Ev.In w ⟨A, L, c, A2, C, c2⟩
  k : CapR A L.length c
  k2 : CapR A2 C.length c2
theorem EvK.below {w w' : World} {A : Option Addr} {L : List Fx} {c : Nat} {A2 : Option Addr} {C : List Cx} {c2 : Nat} (h : EvK w A L c A2 C c2) (hb : Below w.heap.size w w') : EvK w' A L c A2 C c2 := ⟨h.i.below hb, h.k, h.k2⟩
structure PuG (Q : Nat) (vA vB : Option Addr) (vL : List Fx) (vC : List Cx) (vc vk : Nat) (fn fv gn gv cp cn : ByteArray) (fd gd cd : Int) (cb : Bool) (W : World) : Prop where
  v0 : W.cell? ⟨Q, 0, none⟩ = some (.slice vA vL.length vc)
  v1 : W.cell? ⟨Q, 1, none⟩ = some (.slice vB vC.length vk)
  f0 : W.cell? ⟨Q + 1, 0, none⟩ = some (.string fn)
  f1 : W.cell? ⟨Q + 1, 1, none⟩ = some (.int .i64 fd)
  f2 : W.cell? ⟨Q + 1, 2, none⟩ = some (.string fv)
  g0 : W.cell? ⟨Q + 1 + 1, 0, none⟩ = some (.string gn)
  g1 : W.cell? ⟨Q + 1 + 1, 1, none⟩ = some (.int .i64 gd)
  g2 : W.cell? ⟨Q + 1 + 1, 2, none⟩ = some (.string gv)
  c0 : W.cell? ⟨Q + 1 + 1 + 1, 0, none⟩ = some (.string cp)
  c1 : W.cell? ⟨Q + 1 + 1 + 1, 1, none⟩ = some (.string cn)
  c2 : W.cell? ⟨Q + 1 + 1 + 1, 2, none⟩ = some (.int .i64 cd)
  c3 : W.cell? ⟨Q + 1 + 1 + 1, 3, none⟩ = some (.bool cb)
theorem PuG.below {Q : Nat} {vA vB : Option Addr} {vL : List Fx} {vC : List Cx} {vc vk : Nat} {fn fv gn gv cp cn : ByteArray} {fd gd cd : Int} {cb : Bool} {W W' : World} (h : PuG Q vA vB vL vC vc vk fn fv gn gv cp cn fd gd cd cb W) (hb : Below W.heap.size W W') : PuG Q vA vB vL vC vc vk fn fv gn gv cp cn fd gd cd cb W' := ⟨cellO hb h.v0, cellO hb h.v1, cellO hb h.f0, cellO hb h.f1, cellO hb h.f2, cellO hb h.g0, cellO hb h.g1, cellO hb h.g2, cellO hb h.c0, cellO hb h.c1, cellO hb h.c2, cellO hb h.c3⟩
theorem PuG.zs {Q : Nat} {vA vB : Option Addr} {vL : List Fx} {vC : List Cx} {vc vk : Nat} {fn fv gn gv cp cn : ByteArray} {fd gd cd : Int} {cb : Bool} {W : World} (h : PuG Q vA vB vL vC vc vk fn fv gn gv cp cn fd gd cd cb W) : (∀ z : Bel W, z.1.cell? ⟨Q, 0, none⟩ = some (.slice vA vL.length vc)) ∧ (∀ z : Bel W, z.1.cell? ⟨Q, 1, none⟩ = some (.slice vB vC.length vk)) ∧ (∀ z : Bel W, z.1.cell? ⟨Q + 1, 0, none⟩ = some (.string fn)) ∧ (∀ z : Bel W, z.1.cell? ⟨Q + 1, 1, none⟩ = some (.int .i64 fd)) ∧ (∀ z : Bel W, z.1.cell? ⟨Q + 1, 2, none⟩ = some (.string fv)) ∧ (∀ z : Bel W, z.1.cell? ⟨Q + 1 + 1, 0, none⟩ = some (.string gn)) ∧ (∀ z : Bel W, z.1.cell? ⟨Q + 1 + 1, 1, none⟩ = some (.int .i64 gd)) ∧ (∀ z : Bel W, z.1.cell? ⟨Q + 1 + 1, 2, none⟩ = some (.string gv)) ∧ (∀ z : Bel W, z.1.cell? ⟨Q + 1 + 1 + 1, 0, none⟩ = some (.string cp)) ∧ (∀ z : Bel W, z.1.cell? ⟨Q + 1 + 1 + 1, 1, none⟩ = some (.string cn)) ∧ (∀ z : Bel W, z.1.cell? ⟨Q + 1 + 1 + 1, 2, none⟩ = some (.int .i64 cd)) ∧ (∀ z : Bel W, z.1.cell? ⟨Q + 1 + 1 + 1, 3, none⟩ = some (.bool cb)) := ⟨fun z => z.cell h.v0, fun z => z.cell h.v1, fun z => z.cell h.f0, fun z => z.cell h.f1, fun z => z.cell h.f2, fun z => z.cell h.g0, fun z => z.cell h.g1, fun z => z.cell h.g2, fun z => z.cell h.c0, fun z => z.cell h.c1, fun z => z.cell h.c2, fun z => z.cell h.c3⟩
theorem pu_begin (w : World) (vA vB : Option Addr) (vL : List Fx) (vC : List Cx) (vc vk : Nat) (fn fv gn gv cp cn : ByteArray) (fd gd cd : Int) (cb : Bool) :
    ∃ w1, (((w.alloc (.cells #[.slice vA vL.length vc, .slice vB vC.length vk] 38)).alloc (.cells #[.string fn, .int .i64 fd, .string fv] 44)).alloc (.cells #[.string gn, .int .i64 gd, .string gv] 44)).alloc (.cells #[.string cp, .string cn, .int .i64 cd, .bool cb] 47) = w1 ∧ Below w.heap.size w w1 ∧ PuG w.heap.size vA vB vL vC vc vk fn fv gn gv cp cn fd gd cd cb w1 := by
  have r1 := heap_alloc_new w (.cells #[.slice vA vL.length vc, .slice vB vC.length vk] 38)
  have b1 := belO (w.alloc (.cells #[.slice vA vL.length vc, .slice vB vC.length vk] 38)) (.cells #[.string fn, .int .i64 fd, .string fv] 44)
  have r2 := heap_alloc_new (w.alloc (.cells #[.slice vA vL.length vc, .slice vB vC.length vk] 38)) (.cells #[.string fn, .int .i64 fd, .string fv] 44)
  have b2 := belO ((w.alloc (.cells #[.slice vA vL.length vc, .slice vB vC.length vk] 38)).alloc (.cells #[.string fn, .int .i64 fd, .string fv] 44)) (.cells #[.string gn, .int .i64 gd, .string gv] 44)
  have r3 := heap_alloc_new ((w.alloc (.cells #[.slice vA vL.length vc, .slice vB vC.length vk] 38)).alloc (.cells #[.string fn, .int .i64 fd, .string fv] 44)) (.cells #[.string gn, .int .i64 gd, .string gv] 44)
  have b3 := belO (((w.alloc (.cells #[.slice vA vL.length vc, .slice vB vC.length vk] 38)).alloc (.cells #[.string fn, .int .i64 fd, .string fv] 44)).alloc (.cells #[.string gn, .int .i64 gd, .string gv] 44)) (.cells #[.string cp, .string cn, .int .i64 cd, .bool cb] 47)
  have r4 := heap_alloc_new (((w.alloc (.cells #[.slice vA vL.length vc, .slice vB vC.length vk] 38)).alloc (.cells #[.string fn, .int .i64 fd, .string fv] 44)).alloc (.cells #[.string gn, .int .i64 gd, .string gv] 44)) (.cells #[.string cp, .string cn, .int .i64 cd, .bool cb] 47)
  rw [World.size_alloc] at r2
  rw [World.size_alloc, World.size_alloc] at r3
  rw [World.size_alloc, World.size_alloc, World.size_alloc] at r4
  have c1 := btO b1 (btO b2 b3)
  have c2 := btO b2 b3
  exact ⟨_, rfl, btO (belO w _) c1, ⟨cellO c1 (row_cell (j := 0) r1 rfl), cellO c1 (row_cell (j := 1) r1 rfl), cellO c2 (row_cell (j := 0) r2 rfl), cellO c2 (row_cell (j := 1) r2 rfl), cellO c2 (row_cell (j := 2) r2 rfl), cellO b3 (row_cell (j := 0) r3 rfl), cellO b3 (row_cell (j := 1) r3 rfl), cellO b3 (row_cell (j := 2) r3 rfl), row_cell (j := 0) r4 rfl, row_cell (j := 1) r4 rfl, row_cell (j := 2) r4 rfl, row_cell (j := 3) r4 rfl⟩⟩
set_option maxRecDepth 100000 in
set_option maxHeartbeats 25600000 in
theorem puts_1 (ok ok1 : Prop) (vA vB : Option Addr) (vL : List Fx) (vC : List Cx) (vc vk : Nat) (fn fv gn gv cp cn : ByteArray) (fd gd cd : Int) (cb : Bool) (bg yb zb sb : Bool) (yv zv : ByteArray) (aL bL pL qL dL : List Fx) (aC bC pC qC dC : List Cx) (e1 e2 e5 : Int) (w : World) (hvr : VarR w) (hkv : EvK w vA vL vc vB vC vk) (z1 : fn.size ≤ 140737488351232) (z2 : gn.size ≤ 140737488351232) (z3 : cn.size ≤ 140737488351232) (z4 : cp.size ≤ 140737488351232) (z5 : fv.size ≤ 140737488351232) (z6 : gv.size ≤ 140737488351232)
    (hg : ∀ W, VarR W → EvK W vA vL vc vB vC vk → Calls Tryz.prog 24 #[.agg #[.slice vA vL.length vc, .slice vB vC.length vk]] W (BoolRO bg W))
    (h1 : ok1 → ∀ W, VarR W → EvK W vA vL vc vB vC vk → Calls Tryz.prog 19 #[.agg #[.slice vA vL.length vc, .slice vB vC.length vk], .agg #[.string fn, .int .i64 fd, .string fv]] W (EvP aL aC e1 W))
    (h2 : ok1 → ∀ W, VarR W → EvK W vA vL vc vB vC vk → Calls Tryz.prog 19 #[.agg #[.slice vA vL.length vc, .slice vB vC.length vk], .agg #[.string gn, .int .i64 gd, .string gv]] W (EvP bL bC e2 W))
    (h3 : ok → ∀ W aA ac aB ak, VarR W → EvK W aA aL ac aB aC ak → Calls Tryz.prog 19 #[.agg #[.slice aA aL.length ac, .slice aB aC.length ak], .agg #[.string gn, .int .i64 gd, .string gv]] W (EvP pL pC 0 W))
    (h4 : ok → ∀ W bA bc bB bk, VarR W → EvK W bA bL bc bB bC bk → Calls Tryz.prog 19 #[.agg #[.slice bA bL.length bc, .slice bB bC.length bk], .agg #[.string fn, .int .i64 fd, .string fv]] W (EvP qL qC 0 W))
    (h5 : ok → ∀ W aA ac aB ak, VarR W → EvK W aA aL ac aB aC ak → Calls Tryz.prog 28 #[.agg #[.slice aA aL.length ac, .slice aB aC.length ak], .string fn, .int .i64 fd] W (FndE fv true W))
    (h6 : ok → ∀ W, VarR W → EvK W vA vL vc vB vC vk → Calls Tryz.prog 28 #[.agg #[.slice vA vL.length vc, .slice vB vC.length vk], .string gn, .int .i64 gd] W (FndE yv yb W))
    (h7 : ok → ∀ W aA ac aB ak, VarR W → EvK W aA aL ac aB aC ak → Calls Tryz.prog 28 #[.agg #[.slice aA aL.length ac, .slice aB aC.length ak], .string gn, .int .i64 gd] W (FndE zv zb W))
    (h8 : ok → ∀ W aA ac aB ak, VarR W → EvK W aA aL ac aB aC ak → Calls Tryz.prog 22 #[.agg #[.slice aA aL.length ac, .slice aB aC.length ak]] W (IntRO 0 W))
    (h9 : ok → ∀ W pA pc pB pk qA qc qB qk, VarR W → EvK W pA pL pc pB pC pk → EvK W qA qL qc qB qC qk → Calls Tryz.prog 31 #[.agg #[.slice pA pL.length pc, .slice pB pC.length pk], .agg #[.slice qA qL.length qc, .slice qB qC.length qk]] W (BoolRO sb W))
    (h10 : ok → ∀ W aA ac aB ak, VarR W → EvK W aA aL ac aB aC ak → Calls Tryz.prog 20 #[.agg #[.slice aA aL.length ac, .slice aB aC.length ak], .agg #[.string cp, .string cn, .int .i64 cd, .bool cb]] W (EvP dL dC e5 W))
    (key : (bg = true ∧ True) ∨ (bg = false ∧ 990 < (vL.length : Int)) ∨ (bg = false ∧ ¬ 990 < (vL.length : Int) ∧ 3000 < (fn.size : Int) + gn.size + cn.size + cp.size) ∨ (bg = false ∧ ¬ 990 < (vL.length : Int) ∧ ¬ 3000 < (fn.size : Int) + gn.size + cn.size + cp.size ∧ 3000 < (fv.size : Int) + gv.size) ∨ (ok1 ∧ bg = false ∧ ¬ 990 < (vL.length : Int) ∧ ¬ 3000 < (fn.size : Int) + gn.size + cn.size + cp.size ∧ ¬ 3000 < (fv.size : Int) + gv.size ∧ (e1 != 0) = true) ∨ (ok1 ∧ bg = false ∧ ¬ 990 < (vL.length : Int) ∧ ¬ 3000 < (fn.size : Int) + gn.size + cn.size + cp.size ∧ ¬ 3000 < (fv.size : Int) + gv.size ∧ e1 = 0 ∧ (e2 != 0) = true) ∨ (ok ∧ ok1 ∧ bg = false ∧ ¬ 990 < (vL.length : Int) ∧ ¬ 3000 < (fn.size : Int) + gn.size + cn.size + cp.size ∧ ¬ 3000 < (fv.size : Int) + gv.size ∧ e1 = 0 ∧ e2 = 0 ∧ gn = fn ∧ gd = fd ∧ ((pL.length : Int) == (aL.length : Int)) = true) ∨ (ok ∧ ok1 ∧ bg = false ∧ ¬ 990 < (vL.length : Int) ∧ ¬ 3000 < (fn.size : Int) + gn.size + cn.size + cp.size ∧ ¬ 3000 < (fv.size : Int) + gv.size ∧ e1 = 0 ∧ e2 = 0 ∧ (fn.toList == gn.toList) = false ∧ zv = yv ∧ zb = yb ∧ sb = true ∧ (e5 != 0) = true) ∨ (ok ∧ ok1 ∧ bg = false ∧ ¬ 990 < (vL.length : Int) ∧ ¬ 3000 < (fn.size : Int) + gn.size + cn.size + cp.size ∧ ¬ 3000 < (fv.size : Int) + gv.size ∧ e1 = 0 ∧ e2 = 0 ∧ gn = fn ∧ (fd == gd) = false ∧ zv = yv ∧ zb = yb ∧ sb = true ∧ (e5 != 0) = true)) :
    Calls Tryz.prog 9 #[.agg #[.slice vA vL.length vc, .slice vB vC.length vk], .agg #[.string fn, .int .i64 fd, .string fv], .agg #[.string gn, .int .i64 gd, .string gv], .agg #[.string cp, .string cn, .int .i64 cd, .bool cb]] w (BoolRO true w) := by
  have HAl := Lib.hid alive_any8
  have Hg := Lib.hid hg
  have H1 := Lib.hid h1
  have H2 := Lib.hid h2
  have H3 := Lib.hid h3
  have H4 := Lib.hid h4
  have H5 := Lib.hid h5
  have H6 := Lib.hid h6
  have H7 := Lib.hid h7
  have H8 := Lib.hid h8
  have H9 := Lib.hid h9
  have H10 := Lib.hid h10
  obtain ⟨w1, hw1, hB, hS⟩ := pu_begin w vA vB vL vC vc vk fn fv gn gv cp cn fd gd cd cb
  have HB := Lib.hid hB
  have HG := Lib.hid (fun W (hW : Below w1.heap.size w1 W) => hS.below hW)
  have HVr := Lib.hid (fun W (hW : Below w1.heap.size w1 W) => hvr.below (btO hB hW))
  have HK := Lib.hid (fun W (hW : Below w1.heap.size w1 W) => hkv.below (btO hB hW))
  have HW1 := Lib.hid (Below.refl w1.heap.size w1)
  have x1 : IntKind.i64.wrap ((fn.size : Int) + (gn.size : Int)) = (fn.size : Int) + gn.size := by rw [IntKind.wrap_i64]; omega
  have x2 : IntKind.i64.wrap ((fn.size : Int) + (gn.size : Int) + (cn.size : Int)) = (fn.size : Int) + gn.size + cn.size := by rw [IntKind.wrap_i64]; omega
  have x3 : IntKind.i64.wrap ((fn.size : Int) + (gn.size : Int) + (cn.size : Int) + (cp.size : Int)) = (fn.size : Int) + gn.size + cn.size + cp.size := by rw [IntKind.wrap_i64]; omega
  have x4 : IntKind.i64.wrap ((fv.size : Int) + (gv.size : Int)) = (fv.size : Int) + gv.size := by rw [IntKind.wrap_i64]; omega
  clear hvr hkv hB hS z1 z2 z3 z4 z5 z6 hg h1 h2 h3 h4 h5 h6 h7 h8 h9 h10
  obtain ⟨v0, v1, f0, f1, f2, g0, g1, g2, c0, c1, c2, c3⟩ := HG.out _ HW1.out
  rcases key with ⟨rfl, -⟩ | ⟨rfl, q1⟩ | ⟨rfl, q1, q2⟩ | ⟨rfl, q1, q2, q3⟩ | ⟨ok1h, rfl, q1, q2, q3, q4⟩ | ⟨ok1h, rfl, q1, q2, q3, rfl, q4⟩ | ⟨okh, ok1h, rfl, q1, q2, q3, rfl, rfl, rfl, rfl, q5⟩ | ⟨okh, ok1h, rfl, q1, q2, q3, rfl, rfl, q4, rfl, rfl, rfl, q5⟩ | ⟨okh, ok1h, rfl, q1, q2, q3, rfl, rfl, rfl, q4, rfl, rfl, rfl, q5⟩
  all_goals (
    go_enter Tryz.func9, Tryz.ntmps9
    go_wp2_with (first
      | (go_at_call 20; have _t := HW12; ((with_reducible refine (H10.out okh _ _ _ _ _ (HVr.out _ (HW12.out)) (HKa.out.below (btO (belO _ _) HCa.out))).mono ?_); rintro u w13 ⟨dA, dc, dB, dk, rfl, hi, hk, hk2, hb⟩; clear v0 v1 f0 f1 f2 g0 g1 g2 c0 c1 c2 c3 ra0 ra1 rb0 rb1 rp0 rp1 rq0 rq1; have HW13 := Lib.hid (btO (HW12.out) hb); have HCa := Lib.hid (btO HCa.out hb); have HCb := Lib.hid (btO HCb.out hb); have HCp := Lib.hid (btO HCp.out hb); have HCq := Lib.hid (btO HCq.out hb); have HKd := Lib.hid (EvK.mk hi hk hk2); have HRd := Lib.hid (heap_alloc_new w13 (.cells #[.slice dA dL.length dc, .slice dB dC.length dk] 38)); obtain ⟨v0, v1, f0, f1, f2, g0, g1, g2, c0, c1, c2, c3⟩ := HG.out _ (btO HW13.out (belO w13 (.cells #[.slice dA dL.length dc, .slice dB dC.length dk] 38))); have ra0 := cellO (btO HCa.out (belO w13 (.cells #[.slice dA dL.length dc, .slice dB dC.length dk] 38))) (row_cell (j := 0) HRa.out rfl); have ra1 := cellO (btO HCa.out (belO w13 (.cells #[.slice dA dL.length dc, .slice dB dC.length dk] 38))) (row_cell (j := 1) HRa.out rfl); have rb0 := cellO (btO HCb.out (belO w13 (.cells #[.slice dA dL.length dc, .slice dB dC.length dk] 38))) (row_cell (j := 0) HRb.out rfl); have rb1 := cellO (btO HCb.out (belO w13 (.cells #[.slice dA dL.length dc, .slice dB dC.length dk] 38))) (row_cell (j := 1) HRb.out rfl); have rp0 := cellO (btO HCp.out (belO w13 (.cells #[.slice dA dL.length dc, .slice dB dC.length dk] 38))) (row_cell (j := 0) HRp.out rfl); have rp1 := cellO (btO HCp.out (belO w13 (.cells #[.slice dA dL.length dc, .slice dB dC.length dk] 38))) (row_cell (j := 1) HRp.out rfl); have rq0 := cellO (btO HCq.out (belO w13 (.cells #[.slice dA dL.length dc, .slice dB dC.length dk] 38))) (row_cell (j := 0) HRq.out rfl); have rq1 := cellO (btO HCq.out (belO w13 (.cells #[.slice dA dL.length dc, .slice dB dC.length dk] 38))) (row_cell (j := 1) HRq.out rfl); have rd0 := row_cell (j := 0) HRd.out rfl; have rd1 := row_cell (j := 1) HRd.out rfl; clear hi hk hk2 hb))
      | (go_at_call 31; have _t := HW11; ((with_reducible refine (H9.out okh _ _ _ _ _ _ _ _ _ (HVr.out _ (HW11.out)) (HKp.out.below (btO (belO _ _) HCp.out)) (HKq.out.below (btO (belO _ _) HCq.out))).mono ?_); rintro u w12 ⟨rfl, hb⟩; clear v0 v1 f0 f1 f2 g0 g1 g2 c0 c1 c2 c3 ra0 ra1 rb0 rb1 rp0 rp1 rq0 rq1; have HW12 := Lib.hid (btO (HW11.out) hb); have HCa := Lib.hid (btO HCa.out hb); have HCb := Lib.hid (btO HCb.out hb); have HCp := Lib.hid (btO HCp.out hb); have HCq := Lib.hid (btO HCq.out hb); obtain ⟨v0, v1, f0, f1, f2, g0, g1, g2, c0, c1, c2, c3⟩ := HG.out _ HW12.out; have ra0 := cellO HCa.out (row_cell (j := 0) HRa.out rfl); have ra1 := cellO HCa.out (row_cell (j := 1) HRa.out rfl); have rb0 := cellO HCb.out (row_cell (j := 0) HRb.out rfl); have rb1 := cellO HCb.out (row_cell (j := 1) HRb.out rfl); have rp0 := cellO HCp.out (row_cell (j := 0) HRp.out rfl); have rp1 := cellO HCp.out (row_cell (j := 1) HRp.out rfl); have rq0 := cellO HCq.out (row_cell (j := 0) HRq.out rfl); have rq1 := cellO HCq.out (row_cell (j := 1) HRq.out rfl); clear hb))
      | (go_at_call 22; have _t := HW10; ((with_reducible refine (H8.out okh _ _ _ _ _ (HVr.out _ (HW10.out)) (HKa.out.below (btO (belO _ _) HCa.out))).mono ?_); rintro u w11 ⟨rfl, hb⟩; clear v0 v1 f0 f1 f2 g0 g1 g2 c0 c1 c2 c3 ra0 ra1 rb0 rb1 rp0 rp1 rq0 rq1; have HW11 := Lib.hid (btO (HW10.out) hb); have HCa := Lib.hid (btO HCa.out hb); have HCb := Lib.hid (btO HCb.out hb); have HCp := Lib.hid (btO HCp.out hb); have HCq := Lib.hid (btO HCq.out hb); obtain ⟨v0, v1, f0, f1, f2, g0, g1, g2, c0, c1, c2, c3⟩ := HG.out _ HW11.out; have ra0 := cellO HCa.out (row_cell (j := 0) HRa.out rfl); have ra1 := cellO HCa.out (row_cell (j := 1) HRa.out rfl); have rb0 := cellO HCb.out (row_cell (j := 0) HRb.out rfl); have rb1 := cellO HCb.out (row_cell (j := 1) HRb.out rfl); have rp0 := cellO HCp.out (row_cell (j := 0) HRp.out rfl); have rp1 := cellO HCp.out (row_cell (j := 1) HRp.out rfl); have rq0 := cellO HCq.out (row_cell (j := 0) HRq.out rfl); have rq1 := cellO HCq.out (row_cell (j := 1) HRq.out rfl); clear hb))
      | (go_at_call 28; have _t := HW9; ((with_reducible refine (H7.out okh _ _ _ _ _ (HVr.out _ (HW9.out)) (HKa.out.below (btO (belO _ _) HCa.out))).mono ?_); rintro u w10 ⟨rfl, hb⟩; clear v0 v1 f0 f1 f2 g0 g1 g2 c0 c1 c2 c3 ra0 ra1 rb0 rb1 rp0 rp1 rq0 rq1; have HW10 := Lib.hid (btO (HW9.out) hb); have HCa := Lib.hid (btO HCa.out hb); have HCb := Lib.hid (btO HCb.out hb); have HCp := Lib.hid (btO HCp.out hb); have HCq := Lib.hid (btO HCq.out hb); obtain ⟨v0, v1, f0, f1, f2, g0, g1, g2, c0, c1, c2, c3⟩ := HG.out _ HW10.out; have ra0 := cellO HCa.out (row_cell (j := 0) HRa.out rfl); have ra1 := cellO HCa.out (row_cell (j := 1) HRa.out rfl); have rb0 := cellO HCb.out (row_cell (j := 0) HRb.out rfl); have rb1 := cellO HCb.out (row_cell (j := 1) HRb.out rfl); have rp0 := cellO HCp.out (row_cell (j := 0) HRp.out rfl); have rp1 := cellO HCp.out (row_cell (j := 1) HRp.out rfl); have rq0 := cellO HCq.out (row_cell (j := 0) HRq.out rfl); have rq1 := cellO HCq.out (row_cell (j := 1) HRq.out rfl); clear hb))
      | (go_at_call 28; have _t := HW8; ((with_reducible refine (H6.out okh _ (HVr.out _ (HW8.out)) (HK.out _ (HW8.out))).mono ?_); rintro u w9 ⟨rfl, hb⟩; clear v0 v1 f0 f1 f2 g0 g1 g2 c0 c1 c2 c3 ra0 ra1 rb0 rb1 rp0 rp1 rq0 rq1; have HW9 := Lib.hid (btO (HW8.out) hb); have HCa := Lib.hid (btO HCa.out hb); have HCb := Lib.hid (btO HCb.out hb); have HCp := Lib.hid (btO HCp.out hb); have HCq := Lib.hid (btO HCq.out hb); obtain ⟨v0, v1, f0, f1, f2, g0, g1, g2, c0, c1, c2, c3⟩ := HG.out _ HW9.out; have ra0 := cellO HCa.out (row_cell (j := 0) HRa.out rfl); have ra1 := cellO HCa.out (row_cell (j := 1) HRa.out rfl); have rb0 := cellO HCb.out (row_cell (j := 0) HRb.out rfl); have rb1 := cellO HCb.out (row_cell (j := 1) HRb.out rfl); have rp0 := cellO HCp.out (row_cell (j := 0) HRp.out rfl); have rp1 := cellO HCp.out (row_cell (j := 1) HRp.out rfl); have rq0 := cellO HCq.out (row_cell (j := 0) HRq.out rfl); have rq1 := cellO HCq.out (row_cell (j := 1) HRq.out rfl); clear hb))
      | (go_at_call 28; have _t := HW7; ((with_reducible refine (H5.out okh _ _ _ _ _ (HVr.out _ (btO HW7.out (belO w7 (.cells #[.slice qA qL.length qc, .slice qB qC.length qk] 38)))) (HKa.out.below (btO (belO _ _) (btO HCa.out (belO w7 (.cells #[.slice qA qL.length qc, .slice qB qC.length qk] 38)))))).mono ?_); rintro u w8 ⟨rfl, hb⟩; clear v0 v1 f0 f1 f2 g0 g1 g2 c0 c1 c2 c3 ra0 ra1 rb0 rb1 rp0 rp1 rq0 rq1; have HW8 := Lib.hid (btO (btO HW7.out (belO w7 (.cells #[.slice qA qL.length qc, .slice qB qC.length qk] 38))) hb); have HCa := Lib.hid (btO (btO HCa.out (belO w7 (.cells #[.slice qA qL.length qc, .slice qB qC.length qk] 38))) hb); have HCb := Lib.hid (btO (btO HCb.out (belO w7 (.cells #[.slice qA qL.length qc, .slice qB qC.length qk] 38))) hb); have HCp := Lib.hid (btO (btO HCp.out (belO w7 (.cells #[.slice qA qL.length qc, .slice qB qC.length qk] 38))) hb); have HCq := Lib.hid hb; obtain ⟨v0, v1, f0, f1, f2, g0, g1, g2, c0, c1, c2, c3⟩ := HG.out _ HW8.out; have ra0 := cellO HCa.out (row_cell (j := 0) HRa.out rfl); have ra1 := cellO HCa.out (row_cell (j := 1) HRa.out rfl); have rb0 := cellO HCb.out (row_cell (j := 0) HRb.out rfl); have rb1 := cellO HCb.out (row_cell (j := 1) HRb.out rfl); have rp0 := cellO HCp.out (row_cell (j := 0) HRp.out rfl); have rp1 := cellO HCp.out (row_cell (j := 1) HRp.out rfl); have rq0 := cellO HCq.out (row_cell (j := 0) HRq.out rfl); have rq1 := cellO HCq.out (row_cell (j := 1) HRq.out rfl); clear hb))
      | (go_at_call 19; have _t := HW6; ((with_reducible refine (H4.out okh _ _ _ _ _ (HVr.out _ (btO HW6.out (belO w6 (.cells #[.slice pA pL.length pc, .slice pB pC.length pk] 38)))) (HKb.out.below (btO (belO _ _) (btO HCb.out (belO w6 (.cells #[.slice pA pL.length pc, .slice pB pC.length pk] 38)))))).mono ?_); rintro u w7 ⟨qA, qc, qB, qk, rfl, hi, hk, hk2, hb⟩; clear v0 v1 f0 f1 f2 g0 g1 g2 c0 c1 c2 c3 ra0 ra1 rb0 rb1 rp0 rp1; have HW7 := Lib.hid (btO (btO HW6.out (belO w6 (.cells #[.slice pA pL.length pc, .slice pB pC.length pk] 38))) hb); have HCa := Lib.hid (btO (btO HCa.out (belO w6 (.cells #[.slice pA pL.length pc, .slice pB pC.length pk] 38))) hb); have HCb := Lib.hid (btO (btO HCb.out (belO w6 (.cells #[.slice pA pL.length pc, .slice pB pC.length pk] 38))) hb); have HCp := Lib.hid hb; have HKq := Lib.hid (EvK.mk hi hk hk2); have HRq := Lib.hid (heap_alloc_new w7 (.cells #[.slice qA qL.length qc, .slice qB qC.length qk] 38)); obtain ⟨v0, v1, f0, f1, f2, g0, g1, g2, c0, c1, c2, c3⟩ := HG.out _ (btO HW7.out (belO w7 (.cells #[.slice qA qL.length qc, .slice qB qC.length qk] 38))); have ra0 := cellO (btO HCa.out (belO w7 (.cells #[.slice qA qL.length qc, .slice qB qC.length qk] 38))) (row_cell (j := 0) HRa.out rfl); have ra1 := cellO (btO HCa.out (belO w7 (.cells #[.slice qA qL.length qc, .slice qB qC.length qk] 38))) (row_cell (j := 1) HRa.out rfl); have rb0 := cellO (btO HCb.out (belO w7 (.cells #[.slice qA qL.length qc, .slice qB qC.length qk] 38))) (row_cell (j := 0) HRb.out rfl); have rb1 := cellO (btO HCb.out (belO w7 (.cells #[.slice qA qL.length qc, .slice qB qC.length qk] 38))) (row_cell (j := 1) HRb.out rfl); have rp0 := cellO (btO HCp.out (belO w7 (.cells #[.slice qA qL.length qc, .slice qB qC.length qk] 38))) (row_cell (j := 0) HRp.out rfl); have rp1 := cellO (btO HCp.out (belO w7 (.cells #[.slice qA qL.length qc, .slice qB qC.length qk] 38))) (row_cell (j := 1) HRp.out rfl); have rq0 := row_cell (j := 0) HRq.out rfl; have rq1 := row_cell (j := 1) HRq.out rfl; clear hi hk hk2 hb))
      | (go_at_call 19; have _t := HW5; ((with_reducible refine (H3.out okh _ _ _ _ _ (HVr.out _ (btO HW5.out (belO w5 (.cells #[.slice bA bL.length bc, .slice bB bC.length bk] 38)))) (HKa.out.below (btO (belO _ _) (btO HCa.out (belO w5 (.cells #[.slice bA bL.length bc, .slice bB bC.length bk] 38)))))).mono ?_); rintro u w6 ⟨pA, pc, pB, pk, rfl, hi, hk, hk2, hb⟩; clear v0 v1 f0 f1 f2 g0 g1 g2 c0 c1 c2 c3 ra0 ra1 rb0 rb1; have HW6 := Lib.hid (btO (btO HW5.out (belO w5 (.cells #[.slice bA bL.length bc, .slice bB bC.length bk] 38))) hb); have HCa := Lib.hid (btO (btO HCa.out (belO w5 (.cells #[.slice bA bL.length bc, .slice bB bC.length bk] 38))) hb); have HCb := Lib.hid hb; have HKp := Lib.hid (EvK.mk hi hk hk2); have HRp := Lib.hid (heap_alloc_new w6 (.cells #[.slice pA pL.length pc, .slice pB pC.length pk] 38)); obtain ⟨v0, v1, f0, f1, f2, g0, g1, g2, c0, c1, c2, c3⟩ := HG.out _ (btO HW6.out (belO w6 (.cells #[.slice pA pL.length pc, .slice pB pC.length pk] 38))); have ra0 := cellO (btO HCa.out (belO w6 (.cells #[.slice pA pL.length pc, .slice pB pC.length pk] 38))) (row_cell (j := 0) HRa.out rfl); have ra1 := cellO (btO HCa.out (belO w6 (.cells #[.slice pA pL.length pc, .slice pB pC.length pk] 38))) (row_cell (j := 1) HRa.out rfl); have rb0 := cellO (btO HCb.out (belO w6 (.cells #[.slice pA pL.length pc, .slice pB pC.length pk] 38))) (row_cell (j := 0) HRb.out rfl); have rb1 := cellO (btO HCb.out (belO w6 (.cells #[.slice pA pL.length pc, .slice pB pC.length pk] 38))) (row_cell (j := 1) HRb.out rfl); have rp0 := row_cell (j := 0) HRp.out rfl; have rp1 := row_cell (j := 1) HRp.out rfl; clear hi hk hk2 hb))
      | (go_at_call 19; have _t := HW4; ((with_reducible refine (H2.out ok1h _ (HVr.out _ (btO HW4.out (belO w4 (.cells #[.slice aA aL.length ac, .slice aB aC.length ak] 38)))) (HK.out _ (btO HW4.out (belO w4 (.cells #[.slice aA aL.length ac, .slice aB aC.length ak] 38))))).mono ?_); rintro u w5 ⟨bA, bc, bB, bk, rfl, hi, hk, hk2, hb⟩; clear v0 v1 f0 f1 f2 g0 g1 g2 c0 c1 c2 c3 ra0 ra1; have HW5 := Lib.hid (btO (btO HW4.out (belO w4 (.cells #[.slice aA aL.length ac, .slice aB aC.length ak] 38))) hb); have HCa := Lib.hid hb; have HKb := Lib.hid (EvK.mk hi hk hk2); have HRb := Lib.hid (heap_alloc_new w5 (.cells #[.slice bA bL.length bc, .slice bB bC.length bk] 38)); obtain ⟨v0, v1, f0, f1, f2, g0, g1, g2, c0, c1, c2, c3⟩ := HG.out _ (btO HW5.out (belO w5 (.cells #[.slice bA bL.length bc, .slice bB bC.length bk] 38))); have ra0 := cellO (btO HCa.out (belO w5 (.cells #[.slice bA bL.length bc, .slice bB bC.length bk] 38))) (row_cell (j := 0) HRa.out rfl); have ra1 := cellO (btO HCa.out (belO w5 (.cells #[.slice bA bL.length bc, .slice bB bC.length bk] 38))) (row_cell (j := 1) HRa.out rfl); have rb0 := row_cell (j := 0) HRb.out rfl; have rb1 := row_cell (j := 1) HRb.out rfl; clear hi hk hk2 hb))
      | (go_at_call 19; have _t := HW3; ((with_reducible refine (H1.out ok1h _ (HVr.out _ (HW3.out)) (HK.out _ (HW3.out))).mono ?_); rintro u w4 ⟨aA, ac, aB, ak, rfl, hi, hk, hk2, hb⟩; clear v0 v1 f0 f1 f2 g0 g1 g2 c0 c1 c2 c3; have HW4 := Lib.hid (btO (HW3.out) hb); have HKa := Lib.hid (EvK.mk hi hk hk2); have HRa := Lib.hid (heap_alloc_new w4 (.cells #[.slice aA aL.length ac, .slice aB aC.length ak] 38)); obtain ⟨v0, v1, f0, f1, f2, g0, g1, g2, c0, c1, c2, c3⟩ := HG.out _ (btO HW4.out (belO w4 (.cells #[.slice aA aL.length ac, .slice aB aC.length ak] 38))); have ra0 := row_cell (j := 0) HRa.out rfl; have ra1 := row_cell (j := 1) HRa.out rfl; clear hi hk hk2 hb))
      | (go_at_call 24; have _t := HW2; ((with_reducible refine (Hg.out _ (HVr.out _ (HW2.out)) (HK.out _ (HW2.out))).mono ?_); rintro u w3 ⟨rfl, hb⟩; clear v0 v1 f0 f1 f2 g0 g1 g2 c0 c1 c2 c3; have HW3 := Lib.hid (btO (HW2.out) hb); obtain ⟨v0, v1, f0, f1, f2, g0, g1, g2, c0, c1, c2, c3⟩ := HG.out _ HW3.out; clear hb))
      | (go_at_call 23; have _t := HW1; ((with_reducible refine (HAl.out _ (HVr.out _ (HW1.out)) ).mono ?_); rintro u w2 ⟨rfl, hb⟩; clear v0 v1 f0 f1 f2 g0 g1 g2 c0 c1 c2 c3; have HW2 := Lib.hid (btO (HW1.out) hb); obtain ⟨v0, v1, f0, f1, f2, g0, g1, g2, c0, c1, c2, c3⟩ := HG.out _ HW2.out; clear hb)))
    all_goals go_ret
    all_goals exact ⟨rfl, btO HB.out (by first | exact HW13.out | exact btO HW13.out (belO _ _) | exact HW12.out | exact btO HW12.out (belO _ _) | exact HW11.out | exact btO HW11.out (belO _ _) | exact HW10.out | exact btO HW10.out (belO _ _) | exact HW9.out | exact btO HW9.out (belO _ _) | exact HW8.out | exact btO HW8.out (belO _ _) | exact HW7.out | exact btO HW7.out (belO _ _) | exact HW6.out | exact btO HW6.out (belO _ _) | exact HW5.out | exact btO HW5.out (belO _ _) | exact HW4.out | exact btO HW4.out (belO _ _) | exact HW3.out | exact btO HW3.out (belO _ _) | exact HW2.out | exact btO HW2.out (belO _ _))⟩)
set_option maxRecDepth 100000 in
set_option maxHeartbeats 25600000 in
theorem puts_2 (ok ok1 : Prop) (vA vB : Option Addr) (vL : List Fx) (vC : List Cx) (vc vk : Nat) (fn fv gn gv cp cn : ByteArray) (fd gd cd : Int) (cb : Bool) (bg yb zb sb : Bool) (yv zv : ByteArray) (aL bL pL qL dL : List Fx) (aC bC pC qC dC : List Cx) (e1 e2 e5 : Int) (w : World) (hvr : VarR w) (hkv : EvK w vA vL vc vB vC vk) (z1 : fn.size ≤ 140737488351232) (z2 : gn.size ≤ 140737488351232) (z3 : cn.size ≤ 140737488351232) (z4 : cp.size ≤ 140737488351232) (z5 : fv.size ≤ 140737488351232) (z6 : gv.size ≤ 140737488351232)
    (hg : ∀ W, VarR W → EvK W vA vL vc vB vC vk → Calls Tryz.prog 24 #[.agg #[.slice vA vL.length vc, .slice vB vC.length vk]] W (BoolRO bg W))
    (h1 : ok1 → ∀ W, VarR W → EvK W vA vL vc vB vC vk → Calls Tryz.prog 19 #[.agg #[.slice vA vL.length vc, .slice vB vC.length vk], .agg #[.string fn, .int .i64 fd, .string fv]] W (EvP aL aC e1 W))
    (h2 : ok1 → ∀ W, VarR W → EvK W vA vL vc vB vC vk → Calls Tryz.prog 19 #[.agg #[.slice vA vL.length vc, .slice vB vC.length vk], .agg #[.string gn, .int .i64 gd, .string gv]] W (EvP bL bC e2 W))
    (h3 : ok → ∀ W aA ac aB ak, VarR W → EvK W aA aL ac aB aC ak → Calls Tryz.prog 19 #[.agg #[.slice aA aL.length ac, .slice aB aC.length ak], .agg #[.string gn, .int .i64 gd, .string gv]] W (EvP pL pC 0 W))
    (h4 : ok → ∀ W bA bc bB bk, VarR W → EvK W bA bL bc bB bC bk → Calls Tryz.prog 19 #[.agg #[.slice bA bL.length bc, .slice bB bC.length bk], .agg #[.string fn, .int .i64 fd, .string fv]] W (EvP qL qC 0 W))
    (h5 : ok → ∀ W aA ac aB ak, VarR W → EvK W aA aL ac aB aC ak → Calls Tryz.prog 28 #[.agg #[.slice aA aL.length ac, .slice aB aC.length ak], .string fn, .int .i64 fd] W (FndE fv true W))
    (h6 : ok → ∀ W, VarR W → EvK W vA vL vc vB vC vk → Calls Tryz.prog 28 #[.agg #[.slice vA vL.length vc, .slice vB vC.length vk], .string gn, .int .i64 gd] W (FndE yv yb W))
    (h7 : ok → ∀ W aA ac aB ak, VarR W → EvK W aA aL ac aB aC ak → Calls Tryz.prog 28 #[.agg #[.slice aA aL.length ac, .slice aB aC.length ak], .string gn, .int .i64 gd] W (FndE zv zb W))
    (h8 : ok → ∀ W aA ac aB ak, VarR W → EvK W aA aL ac aB aC ak → Calls Tryz.prog 22 #[.agg #[.slice aA aL.length ac, .slice aB aC.length ak]] W (IntRO 0 W))
    (h9 : ok → ∀ W pA pc pB pk qA qc qB qk, VarR W → EvK W pA pL pc pB pC pk → EvK W qA qL qc qB qC qk → Calls Tryz.prog 31 #[.agg #[.slice pA pL.length pc, .slice pB pC.length pk], .agg #[.slice qA qL.length qc, .slice qB qC.length qk]] W (BoolRO sb W))
    (h10 : ok → ∀ W aA ac aB ak, VarR W → EvK W aA aL ac aB aC ak → Calls Tryz.prog 20 #[.agg #[.slice aA aL.length ac, .slice aB aC.length ak], .agg #[.string cp, .string cn, .int .i64 cd, .bool cb]] W (EvP dL dC e5 W))
    (hx1 : ∀ W A c B k, EvK W A dL c B dC k → Calls Tryz.prog 32 #[.agg #[.slice A dL.length c, .slice B dC.length k], .string cp, .string cn, .int .i64 cd] W (fun e w' => e = .returned (.bool cb) ∧ Below W.heap.size W w'))
    (hx2 : ∀ W A c B k, VarR W → EvK W A dL c B dC k → Calls Tryz.prog 22 #[.agg #[.slice A dL.length c, .slice B dC.length k]] W (fun e w' => e = .returned (.int .i64 0) ∧ Below W.heap.size W w'))
    (hx3 : ∀ W A c B k A' c' B' k', EvK W A dL c B dC k → EvK W A' aL c' B' aC k' → Calls Tryz.prog 31 #[.agg #[.slice A dL.length c, .slice B' aC.length k'], .agg #[.slice A' aL.length c', .slice B' aC.length k']] W (fun e w' => e = .returned (.bool true) ∧ Below W.heap.size W w'))
    (key : (ok ∧ ok1 ∧ bg = false ∧ ¬ 990 < (vL.length : Int) ∧ ¬ 3000 < (fn.size : Int) + gn.size + cn.size + cp.size ∧ ¬ 3000 < (fv.size : Int) + gv.size ∧ e1 = 0 ∧ e2 = 0 ∧ (fn.toList == gn.toList) = false ∧ zv = yv ∧ zb = yb ∧ sb = true ∧ e5 = 0) ∨ (ok ∧ ok1 ∧ bg = false ∧ ¬ 990 < (vL.length : Int) ∧ ¬ 3000 < (fn.size : Int) + gn.size + cn.size + cp.size ∧ ¬ 3000 < (fv.size : Int) + gv.size ∧ e1 = 0 ∧ e2 = 0 ∧ gn = fn ∧ (fd == gd) = false ∧ zv = yv ∧ zb = yb ∧ sb = true ∧ e5 = 0)) :
    Calls Tryz.prog 9 #[.agg #[.slice vA vL.length vc, .slice vB vC.length vk], .agg #[.string fn, .int .i64 fd, .string fv], .agg #[.string gn, .int .i64 gd, .string gv], .agg #[.string cp, .string cn, .int .i64 cd, .bool cb]] w (BoolRO true w) := by
  have HAl := Lib.hid alive_any8
  have Hg := Lib.hid hg
  have H1 := Lib.hid h1
  have H2 := Lib.hid h2
  have H3 := Lib.hid h3
  have H4 := Lib.hid h4
  have H5 := Lib.hid h5
  have H6 := Lib.hid h6
  have H7 := Lib.hid h7
  have H8 := Lib.hid h8
  have H9 := Lib.hid h9
  have H10 := Lib.hid h10
  obtain ⟨w1, hw1, hB, hS⟩ := pu_begin w vA vB vL vC vc vk fn fv gn gv cp cn fd gd cd cb
  have HB := Lib.hid hB
  have HG := Lib.hid (fun W (hW : Below w1.heap.size w1 W) => hS.below hW)
  have HVr := Lib.hid (fun W (hW : Below w1.heap.size w1 W) => hvr.below (btO hB hW))
  have HK := Lib.hid (fun W (hW : Below w1.heap.size w1 W) => hkv.below (btO hB hW))
  have HW1 := Lib.hid (Below.refl w1.heap.size w1)
  have x1 : IntKind.i64.wrap ((fn.size : Int) + (gn.size : Int)) = (fn.size : Int) + gn.size := by rw [IntKind.wrap_i64]; omega
  have x2 : IntKind.i64.wrap ((fn.size : Int) + (gn.size : Int) + (cn.size : Int)) = (fn.size : Int) + gn.size + cn.size := by rw [IntKind.wrap_i64]; omega
  have x3 : IntKind.i64.wrap ((fn.size : Int) + (gn.size : Int) + (cn.size : Int) + (cp.size : Int)) = (fn.size : Int) + gn.size + cn.size + cp.size := by rw [IntKind.wrap_i64]; omega
  have x4 : IntKind.i64.wrap ((fv.size : Int) + (gv.size : Int)) = (fv.size : Int) + gv.size := by rw [IntKind.wrap_i64]; omega
  have HX1 := Lib.hid hx1
  have HX2 := Lib.hid hx2
  have HX3 := Lib.hid hx3
  clear hx1 hx2 hx3
  clear hvr hkv hB hS z1 z2 z3 z4 z5 z6 hg h1 h2 h3 h4 h5 h6 h7 h8 h9 h10
  obtain ⟨v0, v1, f0, f1, f2, g0, g1, g2, c0, c1, c2, c3⟩ := HG.out _ HW1.out
  rcases key with ⟨okh, ok1h, rfl, q1, q2, q3, rfl, rfl, q4, rfl, rfl, rfl, rfl⟩ | ⟨okh, ok1h, rfl, q1, q2, q3, rfl, rfl, rfl, q4, rfl, rfl, rfl, rfl⟩
  all_goals (
    go_enter Tryz.func9, Tryz.ntmps9
    go_wp2_with (first
      | (go_at_call 20; have _t := HW12; ((with_reducible refine (H10.out okh _ _ _ _ _ (HVr.out _ (HW12.out)) (HKa.out.below (btO (belO _ _) HCa.out))).mono ?_); rintro u w13 ⟨dA, dc, dB, dk, rfl, hi, hk, hk2, hb⟩; clear v0 v1 f0 f1 f2 g0 g1 g2 c0 c1 c2 c3 ra0 ra1 rb0 rb1 rp0 rp1 rq0 rq1; have HW13 := Lib.hid (btO (HW12.out) hb); have HCa := Lib.hid (btO HCa.out hb); have HCb := Lib.hid (btO HCb.out hb); have HCp := Lib.hid (btO HCp.out hb); have HCq := Lib.hid (btO HCq.out hb); have HKd := Lib.hid (EvK.mk hi hk hk2); have HRd := Lib.hid (heap_alloc_new w13 (.cells #[.slice dA dL.length dc, .slice dB dC.length dk] 38)); obtain ⟨v0, v1, f0, f1, f2, g0, g1, g2, c0, c1, c2, c3⟩ := HG.out _ (btO HW13.out (belO w13 (.cells #[.slice dA dL.length dc, .slice dB dC.length dk] 38))); have ra0 := cellO (btO HCa.out (belO w13 (.cells #[.slice dA dL.length dc, .slice dB dC.length dk] 38))) (row_cell (j := 0) HRa.out rfl); have ra1 := cellO (btO HCa.out (belO w13 (.cells #[.slice dA dL.length dc, .slice dB dC.length dk] 38))) (row_cell (j := 1) HRa.out rfl); have rb0 := cellO (btO HCb.out (belO w13 (.cells #[.slice dA dL.length dc, .slice dB dC.length dk] 38))) (row_cell (j := 0) HRb.out rfl); have rb1 := cellO (btO HCb.out (belO w13 (.cells #[.slice dA dL.length dc, .slice dB dC.length dk] 38))) (row_cell (j := 1) HRb.out rfl); have rp0 := cellO (btO HCp.out (belO w13 (.cells #[.slice dA dL.length dc, .slice dB dC.length dk] 38))) (row_cell (j := 0) HRp.out rfl); have rp1 := cellO (btO HCp.out (belO w13 (.cells #[.slice dA dL.length dc, .slice dB dC.length dk] 38))) (row_cell (j := 1) HRp.out rfl); have rq0 := cellO (btO HCq.out (belO w13 (.cells #[.slice dA dL.length dc, .slice dB dC.length dk] 38))) (row_cell (j := 0) HRq.out rfl); have rq1 := cellO (btO HCq.out (belO w13 (.cells #[.slice dA dL.length dc, .slice dB dC.length dk] 38))) (row_cell (j := 1) HRq.out rfl); have rd0 := row_cell (j := 0) HRd.out rfl; have rd1 := row_cell (j := 1) HRd.out rfl; clear hi hk hk2 hb))
      | (go_at_call 31; have _t := HW11; ((with_reducible refine (H9.out okh _ _ _ _ _ _ _ _ _ (HVr.out _ (HW11.out)) (HKp.out.below (btO (belO _ _) HCp.out)) (HKq.out.below (btO (belO _ _) HCq.out))).mono ?_); rintro u w12 ⟨rfl, hb⟩; clear v0 v1 f0 f1 f2 g0 g1 g2 c0 c1 c2 c3 ra0 ra1 rb0 rb1 rp0 rp1 rq0 rq1; have HW12 := Lib.hid (btO (HW11.out) hb); have HCa := Lib.hid (btO HCa.out hb); have HCb := Lib.hid (btO HCb.out hb); have HCp := Lib.hid (btO HCp.out hb); have HCq := Lib.hid (btO HCq.out hb); obtain ⟨v0, v1, f0, f1, f2, g0, g1, g2, c0, c1, c2, c3⟩ := HG.out _ HW12.out; have ra0 := cellO HCa.out (row_cell (j := 0) HRa.out rfl); have ra1 := cellO HCa.out (row_cell (j := 1) HRa.out rfl); have rb0 := cellO HCb.out (row_cell (j := 0) HRb.out rfl); have rb1 := cellO HCb.out (row_cell (j := 1) HRb.out rfl); have rp0 := cellO HCp.out (row_cell (j := 0) HRp.out rfl); have rp1 := cellO HCp.out (row_cell (j := 1) HRp.out rfl); have rq0 := cellO HCq.out (row_cell (j := 0) HRq.out rfl); have rq1 := cellO HCq.out (row_cell (j := 1) HRq.out rfl); clear hb))
      | (go_at_call 22; have _t := HW10; ((with_reducible refine (H8.out okh _ _ _ _ _ (HVr.out _ (HW10.out)) (HKa.out.below (btO (belO _ _) HCa.out))).mono ?_); rintro u w11 ⟨rfl, hb⟩; clear v0 v1 f0 f1 f2 g0 g1 g2 c0 c1 c2 c3 ra0 ra1 rb0 rb1 rp0 rp1 rq0 rq1; have HW11 := Lib.hid (btO (HW10.out) hb); have HCa := Lib.hid (btO HCa.out hb); have HCb := Lib.hid (btO HCb.out hb); have HCp := Lib.hid (btO HCp.out hb); have HCq := Lib.hid (btO HCq.out hb); obtain ⟨v0, v1, f0, f1, f2, g0, g1, g2, c0, c1, c2, c3⟩ := HG.out _ HW11.out; have ra0 := cellO HCa.out (row_cell (j := 0) HRa.out rfl); have ra1 := cellO HCa.out (row_cell (j := 1) HRa.out rfl); have rb0 := cellO HCb.out (row_cell (j := 0) HRb.out rfl); have rb1 := cellO HCb.out (row_cell (j := 1) HRb.out rfl); have rp0 := cellO HCp.out (row_cell (j := 0) HRp.out rfl); have rp1 := cellO HCp.out (row_cell (j := 1) HRp.out rfl); have rq0 := cellO HCq.out (row_cell (j := 0) HRq.out rfl); have rq1 := cellO HCq.out (row_cell (j := 1) HRq.out rfl); clear hb))
      | (go_at_call 28; have _t := HW9; ((with_reducible refine (H7.out okh _ _ _ _ _ (HVr.out _ (HW9.out)) (HKa.out.below (btO (belO _ _) HCa.out))).mono ?_); rintro u w10 ⟨rfl, hb⟩; clear v0 v1 f0 f1 f2 g0 g1 g2 c0 c1 c2 c3 ra0 ra1 rb0 rb1 rp0 rp1 rq0 rq1; have HW10 := Lib.hid (btO (HW9.out) hb); have HCa := Lib.hid (btO HCa.out hb); have HCb := Lib.hid (btO HCb.out hb); have HCp := Lib.hid (btO HCp.out hb); have HCq := Lib.hid (btO HCq.out hb); obtain ⟨v0, v1, f0, f1, f2, g0, g1, g2, c0, c1, c2, c3⟩ := HG.out _ HW10.out; have ra0 := cellO HCa.out (row_cell (j := 0) HRa.out rfl); have ra1 := cellO HCa.out (row_cell (j := 1) HRa.out rfl); have rb0 := cellO HCb.out (row_cell (j := 0) HRb.out rfl); have rb1 := cellO HCb.out (row_cell (j := 1) HRb.out rfl); have rp0 := cellO HCp.out (row_cell (j := 0) HRp.out rfl); have rp1 := cellO HCp.out (row_cell (j := 1) HRp.out rfl); have rq0 := cellO HCq.out (row_cell (j := 0) HRq.out rfl); have rq1 := cellO HCq.out (row_cell (j := 1) HRq.out rfl); clear hb))
      | (go_at_call 28; have _t := HW8; ((with_reducible refine (H6.out okh _ (HVr.out _ (HW8.out)) (HK.out _ (HW8.out))).mono ?_); rintro u w9 ⟨rfl, hb⟩; clear v0 v1 f0 f1 f2 g0 g1 g2 c0 c1 c2 c3 ra0 ra1 rb0 rb1 rp0 rp1 rq0 rq1; have HW9 := Lib.hid (btO (HW8.out) hb); have HCa := Lib.hid (btO HCa.out hb); have HCb := Lib.hid (btO HCb.out hb); have HCp := Lib.hid (btO HCp.out hb); have HCq := Lib.hid (btO HCq.out hb); obtain ⟨v0, v1, f0, f1, f2, g0, g1, g2, c0, c1, c2, c3⟩ := HG.out _ HW9.out; have ra0 := cellO HCa.out (row_cell (j := 0) HRa.out rfl); have ra1 := cellO HCa.out (row_cell (j := 1) HRa.out rfl); have rb0 := cellO HCb.out (row_cell (j := 0) HRb.out rfl); have rb1 := cellO HCb.out (row_cell (j := 1) HRb.out rfl); have rp0 := cellO HCp.out (row_cell (j := 0) HRp.out rfl); have rp1 := cellO HCp.out (row_cell (j := 1) HRp.out rfl); have rq0 := cellO HCq.out (row_cell (j := 0) HRq.out rfl); have rq1 := cellO HCq.out (row_cell (j := 1) HRq.out rfl); clear hb))
      | (go_at_call 28; have _t := HW7; ((with_reducible refine (H5.out okh _ _ _ _ _ (HVr.out _ (btO HW7.out (belO w7 (.cells #[.slice qA qL.length qc, .slice qB qC.length qk] 38)))) (HKa.out.below (btO (belO _ _) (btO HCa.out (belO w7 (.cells #[.slice qA qL.length qc, .slice qB qC.length qk] 38)))))).mono ?_); rintro u w8 ⟨rfl, hb⟩; clear v0 v1 f0 f1 f2 g0 g1 g2 c0 c1 c2 c3 ra0 ra1 rb0 rb1 rp0 rp1 rq0 rq1; have HW8 := Lib.hid (btO (btO HW7.out (belO w7 (.cells #[.slice qA qL.length qc, .slice qB qC.length qk] 38))) hb); have HCa := Lib.hid (btO (btO HCa.out (belO w7 (.cells #[.slice qA qL.length qc, .slice qB qC.length qk] 38))) hb); have HCb := Lib.hid (btO (btO HCb.out (belO w7 (.cells #[.slice qA qL.length qc, .slice qB qC.length qk] 38))) hb); have HCp := Lib.hid (btO (btO HCp.out (belO w7 (.cells #[.slice qA qL.length qc, .slice qB qC.length qk] 38))) hb); have HCq := Lib.hid hb; obtain ⟨v0, v1, f0, f1, f2, g0, g1, g2, c0, c1, c2, c3⟩ := HG.out _ HW8.out; have ra0 := cellO HCa.out (row_cell (j := 0) HRa.out rfl); have ra1 := cellO HCa.out (row_cell (j := 1) HRa.out rfl); have rb0 := cellO HCb.out (row_cell (j := 0) HRb.out rfl); have rb1 := cellO HCb.out (row_cell (j := 1) HRb.out rfl); have rp0 := cellO HCp.out (row_cell (j := 0) HRp.out rfl); have rp1 := cellO HCp.out (row_cell (j := 1) HRp.out rfl); have rq0 := cellO HCq.out (row_cell (j := 0) HRq.out rfl); have rq1 := cellO HCq.out (row_cell (j := 1) HRq.out rfl); clear hb))
      | (go_at_call 19; have _t := HW6; ((with_reducible refine (H4.out okh _ _ _ _ _ (HVr.out _ (btO HW6.out (belO w6 (.cells #[.slice pA pL.length pc, .slice pB pC.length pk] 38)))) (HKb.out.below (btO (belO _ _) (btO HCb.out (belO w6 (.cells #[.slice pA pL.length pc, .slice pB pC.length pk] 38)))))).mono ?_); rintro u w7 ⟨qA, qc, qB, qk, rfl, hi, hk, hk2, hb⟩; clear v0 v1 f0 f1 f2 g0 g1 g2 c0 c1 c2 c3 ra0 ra1 rb0 rb1 rp0 rp1; have HW7 := Lib.hid (btO (btO HW6.out (belO w6 (.cells #[.slice pA pL.length pc, .slice pB pC.length pk] 38))) hb); have HCa := Lib.hid (btO (btO HCa.out (belO w6 (.cells #[.slice pA pL.length pc, .slice pB pC.length pk] 38))) hb); have HCb := Lib.hid (btO (btO HCb.out (belO w6 (.cells #[.slice pA pL.length pc, .slice pB pC.length pk] 38))) hb); have HCp := Lib.hid hb; have HKq := Lib.hid (EvK.mk hi hk hk2); have HRq := Lib.hid (heap_alloc_new w7 (.cells #[.slice qA qL.length qc, .slice qB qC.length qk] 38)); obtain ⟨v0, v1, f0, f1, f2, g0, g1, g2, c0, c1, c2, c3⟩ := HG.out _ (btO HW7.out (belO w7 (.cells #[.slice qA qL.length qc, .slice qB qC.length qk] 38))); have ra0 := cellO (btO HCa.out (belO w7 (.cells #[.slice qA qL.length qc, .slice qB qC.length qk] 38))) (row_cell (j := 0) HRa.out rfl); have ra1 := cellO (btO HCa.out (belO w7 (.cells #[.slice qA qL.length qc, .slice qB qC.length qk] 38))) (row_cell (j := 1) HRa.out rfl); have rb0 := cellO (btO HCb.out (belO w7 (.cells #[.slice qA qL.length qc, .slice qB qC.length qk] 38))) (row_cell (j := 0) HRb.out rfl); have rb1 := cellO (btO HCb.out (belO w7 (.cells #[.slice qA qL.length qc, .slice qB qC.length qk] 38))) (row_cell (j := 1) HRb.out rfl); have rp0 := cellO (btO HCp.out (belO w7 (.cells #[.slice qA qL.length qc, .slice qB qC.length qk] 38))) (row_cell (j := 0) HRp.out rfl); have rp1 := cellO (btO HCp.out (belO w7 (.cells #[.slice qA qL.length qc, .slice qB qC.length qk] 38))) (row_cell (j := 1) HRp.out rfl); have rq0 := row_cell (j := 0) HRq.out rfl; have rq1 := row_cell (j := 1) HRq.out rfl; clear hi hk hk2 hb))
      | (go_at_call 19; have _t := HW5; ((with_reducible refine (H3.out okh _ _ _ _ _ (HVr.out _ (btO HW5.out (belO w5 (.cells #[.slice bA bL.length bc, .slice bB bC.length bk] 38)))) (HKa.out.below (btO (belO _ _) (btO HCa.out (belO w5 (.cells #[.slice bA bL.length bc, .slice bB bC.length bk] 38)))))).mono ?_); rintro u w6 ⟨pA, pc, pB, pk, rfl, hi, hk, hk2, hb⟩; clear v0 v1 f0 f1 f2 g0 g1 g2 c0 c1 c2 c3 ra0 ra1 rb0 rb1; have HW6 := Lib.hid (btO (btO HW5.out (belO w5 (.cells #[.slice bA bL.length bc, .slice bB bC.length bk] 38))) hb); have HCa := Lib.hid (btO (btO HCa.out (belO w5 (.cells #[.slice bA bL.length bc, .slice bB bC.length bk] 38))) hb); have HCb := Lib.hid hb; have HKp := Lib.hid (EvK.mk hi hk hk2); have HRp := Lib.hid (heap_alloc_new w6 (.cells #[.slice pA pL.length pc, .slice pB pC.length pk] 38)); obtain ⟨v0, v1, f0, f1, f2, g0, g1, g2, c0, c1, c2, c3⟩ := HG.out _ (btO HW6.out (belO w6 (.cells #[.slice pA pL.length pc, .slice pB pC.length pk] 38))); have ra0 := cellO (btO HCa.out (belO w6 (.cells #[.slice pA pL.length pc, .slice pB pC.length pk] 38))) (row_cell (j := 0) HRa.out rfl); have ra1 := cellO (btO HCa.out (belO w6 (.cells #[.slice pA pL.length pc, .slice pB pC.length pk] 38))) (row_cell (j := 1) HRa.out rfl); have rb0 := cellO (btO HCb.out (belO w6 (.cells #[.slice pA pL.length pc, .slice pB pC.length pk] 38))) (row_cell (j := 0) HRb.out rfl); have rb1 := cellO (btO HCb.out (belO w6 (.cells #[.slice pA pL.length pc, .slice pB pC.length pk] 38))) (row_cell (j := 1) HRb.out rfl); have rp0 := row_cell (j := 0) HRp.out rfl; have rp1 := row_cell (j := 1) HRp.out rfl; clear hi hk hk2 hb))
      | (go_at_call 19; have _t := HW4; ((with_reducible refine (H2.out ok1h _ (HVr.out _ (btO HW4.out (belO w4 (.cells #[.slice aA aL.length ac, .slice aB aC.length ak] 38)))) (HK.out _ (btO HW4.out (belO w4 (.cells #[.slice aA aL.length ac, .slice aB aC.length ak] 38))))).mono ?_); rintro u w5 ⟨bA, bc, bB, bk, rfl, hi, hk, hk2, hb⟩; clear v0 v1 f0 f1 f2 g0 g1 g2 c0 c1 c2 c3 ra0 ra1; have HW5 := Lib.hid (btO (btO HW4.out (belO w4 (.cells #[.slice aA aL.length ac, .slice aB aC.length ak] 38))) hb); have HCa := Lib.hid hb; have HKb := Lib.hid (EvK.mk hi hk hk2); have HRb := Lib.hid (heap_alloc_new w5 (.cells #[.slice bA bL.length bc, .slice bB bC.length bk] 38)); obtain ⟨v0, v1, f0, f1, f2, g0, g1, g2, c0, c1, c2, c3⟩ := HG.out _ (btO HW5.out (belO w5 (.cells #[.slice bA bL.length bc, .slice bB bC.length bk] 38))); have ra0 := cellO (btO HCa.out (belO w5 (.cells #[.slice bA bL.length bc, .slice bB bC.length bk] 38))) (row_cell (j := 0) HRa.out rfl); have ra1 := cellO (btO HCa.out (belO w5 (.cells #[.slice bA bL.length bc, .slice bB bC.length bk] 38))) (row_cell (j := 1) HRa.out rfl); have rb0 := row_cell (j := 0) HRb.out rfl; have rb1 := row_cell (j := 1) HRb.out rfl; clear hi hk hk2 hb))
      | (go_at_call 19; have _t := HW3; ((with_reducible refine (H1.out ok1h _ (HVr.out _ (HW3.out)) (HK.out _ (HW3.out))).mono ?_); rintro u w4 ⟨aA, ac, aB, ak, rfl, hi, hk, hk2, hb⟩; clear v0 v1 f0 f1 f2 g0 g1 g2 c0 c1 c2 c3; have HW4 := Lib.hid (btO (HW3.out) hb); have HKa := Lib.hid (EvK.mk hi hk hk2); have HRa := Lib.hid (heap_alloc_new w4 (.cells #[.slice aA aL.length ac, .slice aB aC.length ak] 38)); obtain ⟨v0, v1, f0, f1, f2, g0, g1, g2, c0, c1, c2, c3⟩ := HG.out _ (btO HW4.out (belO w4 (.cells #[.slice aA aL.length ac, .slice aB aC.length ak] 38))); have ra0 := row_cell (j := 0) HRa.out rfl; have ra1 := row_cell (j := 1) HRa.out rfl; clear hi hk hk2 hb))
      | (go_at_call 24; have _t := HW2; ((with_reducible refine (Hg.out _ (HVr.out _ (HW2.out)) (HK.out _ (HW2.out))).mono ?_); rintro u w3 ⟨rfl, hb⟩; clear v0 v1 f0 f1 f2 g0 g1 g2 c0 c1 c2 c3; have HW3 := Lib.hid (btO (HW2.out) hb); obtain ⟨v0, v1, f0, f1, f2, g0, g1, g2, c0, c1, c2, c3⟩ := HG.out _ HW3.out; clear hb))
      | (go_at_call 23; have _t := HW1; ((with_reducible refine (HAl.out _ (HVr.out _ (HW1.out)) ).mono ?_); rintro u w2 ⟨rfl, hb⟩; clear v0 v1 f0 f1 f2 g0 g1 g2 c0 c1 c2 c3; have HW2 := Lib.hid (btO (HW1.out) hb); obtain ⟨v0, v1, f0, f1, f2, g0, g1, g2, c0, c1, c2, c3⟩ := HG.out _ HW2.out; clear hb)))
    have HVd := Lib.hid (btO HW13.out (belO w13 (.cells #[.slice dA dL.length dc, .slice dB dC.length dk] 38)))
    have HCa := Lib.hid (btO HCa.out (belO w13 (.cells #[.slice dA dL.length dc, .slice dB dC.length dk] 38)))
    have HKa := Lib.hid (HKa.out.below (btO (belO _ _) HCa.out))
    have HKd := Lib.hid (HKd.out.below (belO w13 (.cells #[.slice dA dL.length dc, .slice dB dC.length dk] 38)))
    have HGd := HG.out _ HVd.out
    clear hw1 v0 v1 f0 f1 f2 g0 g1 g2 c0 c1 c2 c3
    generalize w13.alloc (.cells #[.slice dA dL.length dc, .slice dB dC.length dk] 38) = w14 at *
    obtain ⟨zv0, zv1, zf0, zf1, zf2, zg0, zg1, zg2, zc0, zc1, zc2, zc3⟩ := HGd.zs
    have zd0 := fun z : Bel w14 => z.cell rd0
    have zd1 := fun z : Bel w14 => z.cell rd1
    have za0 := fun z : Bel w14 => z.cell ra0
    have za1 := fun z : Bel w14 => z.cell ra1
    clear rd0 rd1 ra0 ra1 rb0 rb1 rp0 rp1 rq0 rq1 HGd
    refine wp_region_bel (by kernel_rfl) (by kernel_rfl) ?_
    repeat (go_big_quiet_step (first
      | (go_at_call 32; with_reducible exact Bel.calls (fun W hW => HX1.out W _ _ _ _ (HKd.out.below hW)) _)
      | (go_at_call 22; with_reducible exact Bel.calls (fun W hW => HX2.out W _ _ _ _ (HVr.out _ (btO HVd.out hW)) (HKd.out.below hW)) _)
      | (go_at_call 31; with_reducible exact Bel.calls (fun W hW => HX3.out W _ _ _ _ _ _ _ _ (HKd.out.below hW) (HKa.out.below hW)) _)))
    refine wpQuiet_nil ?_
    rintro _ ⟨zz, rfl⟩
    have HW14 := Lib.hid (btO HVd.out zz.2)
    generalize zz.1 = w15 at *
    go_wp2_with (fail)
    all_goals go_ret
    all_goals exact ⟨rfl, btO HB.out (by first | exact HW14.out | exact btO HW14.out (belO _ _) | exact HW13.out | exact btO HW13.out (belO _ _) | exact HW12.out | exact btO HW12.out (belO _ _) | exact HW11.out | exact btO HW11.out (belO _ _) | exact HW10.out | exact btO HW10.out (belO _ _) | exact HW9.out | exact btO HW9.out (belO _ _) | exact HW8.out | exact btO HW8.out (belO _ _) | exact HW7.out | exact btO HW7.out (belO _ _) | exact HW6.out | exact btO HW6.out (belO _ _) | exact HW5.out | exact btO HW5.out (belO _ _) | exact HW4.out | exact btO HW4.out (belO _ _) | exact HW3.out | exact btO HW3.out (belO _ _) | exact HW2.out | exact btO HW2.out (belO _ _))⟩)
end Go.Proofs.YtceooffedkalnaaGreatDoor
/- The law ObservablePuts. -/
namespace Go.Proofs.YtceooffedkalnaaGreatDoor
open Go Go.RowKit
theorem PutO.evP {L : List Fx} {C : List Cx} {e : Int} {w w' : World} {x : Ending} (h : PutO L C e w x w') (l1 : L.length ≤ 1000) (l2 : C.length ≤ 1000) (b1 : ∀ f ∈ L, f.1.size ≤ 140737488351232 ∧ f.2.2.size ≤ 140737488351232) (b2 : ∀ c ∈ C, c.1.size ≤ 140737488351232 ∧ c.2.1.size ≤ 140737488351232) : EvP L C e w x w' := by
  obtain ⟨A, c, A2, c2, h1, h2, h3, h4, -, -, h5⟩ := h.ev l1 l2 b1 b2
  exact ⟨A, c, A2, c2, h1, h2, h3, h4, h5⟩
section
variable {fs : List Fx} {cs : List Cx}
def ShF (fs : List Fx) : Prop := ∀ f ∈ fs, f.1.size ≤ 140737488351232 ∧ f.2.2.size ≤ 1048576
def ShC (cs : List Cx) : Prop := ∀ c ∈ cs, c.1.size ≤ 140737488351232 ∧ c.2.1.size ≤ 140737488351232
theorem ShF.big {fs : List Fx} (h : ShF fs) : ∀ f ∈ fs, f.1.size ≤ 140737488351232 ∧ f.2.2.size ≤ 140737488351232 := fun f hf => ⟨(h f hf).1, by have := (h f hf).2; omega⟩
theorem ShF.put (h : ShF fs) {f : Fx} (h1 : f.1.size ≤ 140737488351232) (h2 : f.2.2.size ≤ 1048576) : ShF (putFL fs cs f) := fun z hz => by
  rcases putFL_mem hz with rfl | hz
  · exact ⟨h1, h2⟩
  · exact h z hz
theorem ShC.put (h : ShC cs) {f : Fx} : ShC (putFC fs cs f) := fun z hz => h z (putFC_mem hz)
theorem ShF.cho (h : ShF fs) {c : Cx} : ShF (choFL fs cs c) := fun z hz => h z (choFL_mem hz)
theorem ShC.cho (h : ShC cs) {c : Cx} (h1 : c.1.size ≤ 140737488351232) (h2 : c.2.1.size ≤ 140737488351232) : ShC (choCL fs cs c) := fun z hz => by
  rcases choCL_mem hz with rfl | hz
  · exact ⟨h1, h2⟩
  · exact h z hz
theorem call_put (hF : ShF fs) (hC : ShC cs) (n v : ByteArray) (d : Int) (hn : n.size ≤ 140737488351232) (hv : v.size ≤ 1048576) (W : World) (hvr : VarR W) (A : Option Addr) (c : Nat) (B : Option Addr) (k : Nat) (hk : EvK W A fs c B cs k) :
    Calls Tryz.prog 19 #[.agg #[.slice A fs.length c, .slice B cs.length k], .agg #[.string n, .int .i64 d, .string v]] W (EvP (putFL fs cs (n, d, v)) (putFC fs cs (n, d, v)) (putFE fs cs (n, d, v)) W) :=
  (pput_any ⟨A, fs, c, B, cs, k⟩ n v d W hk.i hvr (fun f hf => (hF f hf).2) hk.k hv).mono fun _ _ h => PutO.evP h (putFL_len _ _ _) (putFC_len _ _ _) (hF.put hn hv).big hC.put
theorem call_cho (hF : ShF fs) (hC : ShC cs) (p n : ByteArray) (d : Int) (b : Bool) (hp : p.size ≤ 140737488351232) (hn : n.size ≤ 140737488351232) (W : World) (hvr : VarR W) (A : Option Addr) (c : Nat) (B : Option Addr) (k : Nat) (hk : EvK W A fs c B cs k) :
    Calls Tryz.prog 20 #[.agg #[.slice A fs.length c, .slice B cs.length k], .agg #[.string p, .string n, .int .i64 d, .bool b]] W (EvP (choFL fs cs (p, n, d, b)) (choCL fs cs (p, n, d, b)) (choE fs cs (p, n, d, b)) W) :=
  (pchoose_any ⟨A, fs, c, B, cs, k⟩ p n d b W hk.i hvr (fun f hf => (hF f hf).2) hk.k2).mono fun _ _ h => PutO.evP h (choFL_len _ _ _) (choCL_len _ _ _) hF.cho.big (hC.cho hp hn)
end
theorem key_ne {n n' : ByteArray} {d d' : Int} {v v' : ByteArray} (h : ¬ (n = n' ∧ d = d')) : Fx.key (n, d, v) ≠ Fx.key (n', d', v') := fun e => by
  apply h
  have e1 : ([], n.data.toList, d) = (([], n'.data.toList, d') : Key) := e
  injection e1 with _ e2
  injection e2 with e3 e4
  refine ⟨?_, e4⟩
  have : n.data = n'.data := Array.ext' e3
  cases n; cases n'; simp_all
theorem putFE_of {fs : List Fx} {cs : List Cx} {f : Fx} (h1 : envE fs cs = 0) (h2 : nameO f.1.data.toList = true) (h3 : dayO f.2.1 = true) (h4 : chkR f.2.2.data.toList = 0) (h5 : (insL Fx.key f fs).length ≤ 1000) : putFE fs cs f = 0 := by
  have hd : putFE fs cs f = if envE fs cs ≠ 0 then envE fs cs else if (nameO f.1.data.toList && dayO f.2.1) = false then 2 else if chkR f.2.2.data.toList ≠ 0 then chkR f.2.2.data.toList else if 1000 < (insL Fx.key f fs).length then 22 else 0 := rfl
  rw [hd, if_neg (by simpa using h1), h2, h3, if_neg (by decide), if_neg (by simpa using h4), if_neg (by omega)]
theorem put_is {fs : List Fx} {cs : List Cx} {f : Fx} (h : putFE fs cs f = 0) : putFL fs cs f = insL Fx.key f fs ∧ putFC fs cs f = cs := by
  unfold putFL putFC
  rw [if_pos h, if_pos h]
  exact ⟨rfl, rfl⟩
theorem put_twice {fs : List Fx} {cs : List Cx} {f g : Fx} (h1 : putFE fs cs f = 0) (h2 : putFE fs cs g = 0) (hl : fs.length ≤ 990) : putFE (putFL fs cs f) (putFC fs cs f) g = 0 := by
  obtain ⟨-, a2, a3, a4, -⟩ := putFE_cases h2
  refine putFE_of (put_env h1) a2 a3 a4 ?_
  have q1 := insL_le (key := Fx.key) (x := g) (putFL fs cs f)
  have q2 := insL_le (key := Fx.key) (x := f) fs
  rw [(put_is h1).1] at q1 ⊢
  omega
theorem put_inc {fs : List Fx} {cs : List Cx} {f : Fx} (h : putFE fs cs f = 0) : Inc Fx.key fs := (inc_of (envE_zero (putFE_cases h).1).2.2.1).1
section
variable (E : Ev) (fn fv gn gv cp cn : ByteArray) (fd gd cd : Int) (cb : Bool) (w : World) (hin : E.In w) (kF : CapR E.fA E.fs.length E.fc) (kC : CapR E.cA E.cs.length E.cc) (hv : VarR w)
  (z1 : fn.size ≤ 140737488351232) (z2 : gn.size ≤ 140737488351232) (z3 : cn.size ≤ 140737488351232) (z4 : cp.size ≤ 140737488351232) (z5 : fv.size ≤ 140737488351232) (z6 : gv.size ≤ 140737488351232)
include hin kF kC hv z1 z2 z3 z4 z5 z6
theorem puts_end (hg : ∀ W, VarR W → EvK W E.fA E.fs E.fc E.cA E.cs E.cc → Calls Tryz.prog 24 #[E.val] W (BoolRO false W)) (hF : ShF E.fs) (hC : ShC E.cs)
    (h1 : True → ∀ W, VarR W → EvK W E.fA E.fs E.fc E.cA E.cs E.cc → Calls Tryz.prog 19 #[E.val, .agg #[.string fn, .int .i64 fd, .string fv]] W (EvP (putFL E.fs E.cs (fn, fd, fv)) (putFC E.fs E.cs (fn, fd, fv)) (putFE E.fs E.cs (fn, fd, fv)) W))
    (h2 : True → ∀ W, VarR W → EvK W E.fA E.fs E.fc E.cA E.cs E.cc → Calls Tryz.prog 19 #[E.val, .agg #[.string gn, .int .i64 gd, .string gv]] W (EvP (putFL E.fs E.cs (gn, gd, gv)) (putFC E.fs E.cs (gn, gd, gv)) (putFE E.fs E.cs (gn, gd, gv)) W))
    (q1 : ¬ 990 < (E.fs.length : Int)) (q2 : ¬ 3000 < (fn.size : Int) + gn.size + cn.size + cp.size) (q3 : ¬ 3000 < (fv.size : Int) + gv.size) (q4 : putFE E.fs E.cs (fn, fd, fv) = 0) (q5 : putFE E.fs E.cs (gn, gd, gv) = 0) :
    Calls Tryz.prog 9 #[E.val, .agg #[.string fn, .int .i64 fd, .string fv], .agg #[.string gn, .int .i64 gd, .string gv], .agg #[.string cp, .string cn, .int .i64 cd, .bool cb]] w (BoolRO true w) := by
  have hk : EvK w E.fA E.fs E.fc E.cA E.cs E.cc := ⟨hin, kF, kC⟩
  have hI := put_inc q4
  obtain ⟨a1, a2⟩ := put_is q4
  obtain ⟨b1, b2⟩ := put_is q5
  have e3 := put_twice q4 q5 (by omega)
  have e4 := put_twice q5 q4 (by omega)
  obtain ⟨p1, p2⟩ := put_is e3
  obtain ⟨r1, r2⟩ := put_is e4
  have hFa : ShF (putFL E.fs E.cs (fn, fd, fv)) := hF.put z1 (by show fv.size ≤ _; omega)
  have hCa : ShC (putFC E.fs E.cs (fn, fd, fv)) := hC.put
  have hFb : ShF (putFL E.fs E.cs (gn, gd, gv)) := hF.put z2 (by show gv.size ≤ _; omega)
  have hCb : ShC (putFC E.fs E.cs (gn, gd, gv)) := hC.put
  have ha0 := put_env q4
  rw [q4] at h1
  rw [q5] at h2
  have h3 : True → ∀ W A c B k, VarR W → EvK W A (putFL E.fs E.cs (fn, fd, fv)) c B (putFC E.fs E.cs (fn, fd, fv)) k → Calls Tryz.prog 19 #[.agg #[.slice A (putFL E.fs E.cs (fn, fd, fv)).length c, .slice B (putFC E.fs E.cs (fn, fd, fv)).length k], .agg #[.string gn, .int .i64 gd, .string gv]] W (EvP _ _ 0 W) := fun _ W A c B k a b => by
    have := call_put hFa hCa gn gv gd z2 (by omega) W a A c B k b
    rw [e3] at this
    exact this
  have h4 : True → ∀ W A c B k, VarR W → EvK W A (putFL E.fs E.cs (gn, gd, gv)) c B (putFC E.fs E.cs (gn, gd, gv)) k → Calls Tryz.prog 19 #[.agg #[.slice A (putFL E.fs E.cs (gn, gd, gv)).length c, .slice B (putFC E.fs E.cs (gn, gd, gv)).length k], .agg #[.string fn, .int .i64 fd, .string fv]] W (EvP _ _ 0 W) := fun _ W A c B k a b => by
    have := call_put hFb hCb fn fv fd z1 (by omega) W a A c B k b
    rw [e4] at this
    exact this
  have f5 : fndV (putFL E.fs E.cs (fn, fd, fv)) fn fd = fv ∧ fndB (putFL E.fs E.cs (fn, fd, fv)) fn fd = true := by rw [a1]; exact find_put hI (fn, fd, fv)
  have h5 : True → ∀ W A c B k, VarR W → EvK W A (putFL E.fs E.cs (fn, fd, fv)) c B (putFC E.fs E.cs (fn, fd, fv)) k → Calls Tryz.prog 28 #[.agg #[.slice A (putFL E.fs E.cs (fn, fd, fv)).length c, .slice B (putFC E.fs E.cs (fn, fd, fv)).length k], .string fn, .int .i64 fd] W (FndE fv true W) := fun _ W A c B k _ b => by
    have := pfind_anyO ⟨A, _, c, B, _, k⟩ fn fd W b.i
    simp only [f5.1, f5.2] at this
    exact this
  have h6 : True → ∀ W, VarR W → EvK W E.fA E.fs E.fc E.cA E.cs E.cc → Calls Tryz.prog 28 #[E.val, .string gn, .int .i64 gd] W (FndE (fndV E.fs gn gd) (fndB E.fs gn gd) W) := fun _ W _ b => pfind_anyO E gn gd W b.i
  have h7 : True → ∀ W A c B k, VarR W → EvK W A (putFL E.fs E.cs (fn, fd, fv)) c B (putFC E.fs E.cs (fn, fd, fv)) k → Calls Tryz.prog 28 #[.agg #[.slice A (putFL E.fs E.cs (fn, fd, fv)).length c, .slice B (putFC E.fs E.cs (fn, fd, fv)).length k], .string gn, .int .i64 gd] W (FndE (fndV (putFL E.fs E.cs (fn, fd, fv)) gn gd) (fndB (putFL E.fs E.cs (fn, fd, fv)) gn gd) W) := fun _ W A c B k _ b => pfind_anyO ⟨A, _, c, B, _, k⟩ gn gd W b.i
  have h8 : True → ∀ W A c B k, VarR W → EvK W A (putFL E.fs E.cs (fn, fd, fv)) c B (putFC E.fs E.cs (fn, fd, fv)) k → Calls Tryz.prog 22 #[.agg #[.slice A (putFL E.fs E.cs (fn, fd, fv)).length c, .slice B (putFC E.fs E.cs (fn, fd, fv)).length k]] W (IntRO 0 W) := fun _ W A c B k a b => by
    have := pcheckEnv_any ⟨A, _, c, B, _, k⟩ W b.i a (fun f hf => (hFa f hf).2)
    rw [ha0] at this
    exact this
  have h9 : True → ∀ W pA pc pB pk qA qc qB qk, VarR W → EvK W pA (putFL (putFL E.fs E.cs (fn, fd, fv)) (putFC E.fs E.cs (fn, fd, fv)) (gn, gd, gv)) pc pB (putFC (putFL E.fs E.cs (fn, fd, fv)) (putFC E.fs E.cs (fn, fd, fv)) (gn, gd, gv)) pk → EvK W qA (putFL (putFL E.fs E.cs (gn, gd, gv)) (putFC E.fs E.cs (gn, gd, gv)) (fn, fd, fv)) qc qB (putFC (putFL E.fs E.cs (gn, gd, gv)) (putFC E.fs E.cs (gn, gd, gv)) (fn, fd, fv)) qk → Calls Tryz.prog 31 #[.agg #[.slice pA (putFL (putFL E.fs E.cs (fn, fd, fv)) (putFC E.fs E.cs (fn, fd, fv)) (gn, gd, gv)).length pc, .slice pB (putFC (putFL E.fs E.cs (fn, fd, fv)) (putFC E.fs E.cs (fn, fd, fv)) (gn, gd, gv)).length pk], .agg #[.slice qA (putFL (putFL E.fs E.cs (gn, gd, gv)) (putFC E.fs E.cs (gn, gd, gv)) (fn, fd, fv)).length qc, .slice qB (putFC (putFL E.fs E.cs (gn, gd, gv)) (putFC E.fs E.cs (gn, gd, gv)) (fn, fd, fv)).length qk]] W (BoolRO (decide (putFL (putFL E.fs E.cs (fn, fd, fv)) (putFC E.fs E.cs (fn, fd, fv)) (gn, gd, gv) = putFL (putFL E.fs E.cs (gn, gd, gv)) (putFC E.fs E.cs (gn, gd, gv)) (fn, fd, fv) ∧ putFC (putFL E.fs E.cs (fn, fd, fv)) (putFC E.fs E.cs (fn, fd, fv)) (gn, gd, gv) = putFC (putFL E.fs E.cs (gn, gd, gv)) (putFC E.fs E.cs (gn, gd, gv)) (fn, fd, fv))) W) :=
    fun _ W pA pc pB pk qA qc qB qk _ b1 b2 => sameEnv_any ⟨pA, _, pc, pB, _, pk⟩ ⟨qA, _, qc, qB, _, qk⟩ _ decide_eq_true_iff W b1.i b2.i
  have h10 : True → ∀ W A c B k, VarR W → EvK W A (putFL E.fs E.cs (fn, fd, fv)) c B (putFC E.fs E.cs (fn, fd, fv)) k → Calls Tryz.prog 20 #[.agg #[.slice A (putFL E.fs E.cs (fn, fd, fv)).length c, .slice B (putFC E.fs E.cs (fn, fd, fv)).length k], .agg #[.string cp, .string cn, .int .i64 cd, .bool cb]] W (EvP _ _ _ W) := fun _ W A c B k a b => call_cho hFa hCa cp cn cd cb z4 z3 W a A c B k b
  by_cases hne : fn = gn ∧ fd = gd
  · obtain ⟨rfl, rfl⟩ := hne
    have hl : (putFL (putFL E.fs E.cs (fn, fd, fv)) (putFC E.fs E.cs (fn, fd, fv)) (fn, fd, gv)).length = (putFL E.fs E.cs (fn, fd, fv)).length := by
      rw [p1, a1, insL_same (x := ((fn, fd, fv) : Fx)) (y := ((fn, fd, gv) : Fx)) hI rfl]
      exact insL_same_len (x := ((fn, fd, fv) : Fx)) (y := ((fn, fd, gv) : Fx)) rfl
    exact puts_1 True True E.fA E.cA E.fs E.cs E.fc E.cc fn fv fn gv cp cn fd fd cd cb false _ _ _ _ _ _ _ _ _ _ _ _ _ _ _ 0 0 _ w hv hk z1 z2 z3 z4 z5 z6 hg h1 h2 h3 h4 h5 h6 h7 h8 h9 h10 (.inr (.inr (.inr (.inr (.inr (.inr (.inl ⟨trivial, trivial, rfl, q1, q2, q3, rfl, rfl, rfl, rfl, by rw [hl]; simp⟩)))))))
  · have hs : decide (putFL (putFL E.fs E.cs (fn, fd, fv)) (putFC E.fs E.cs (fn, fd, fv)) (gn, gd, gv) = putFL (putFL E.fs E.cs (gn, gd, gv)) (putFC E.fs E.cs (gn, gd, gv)) (fn, fd, fv) ∧ putFC (putFL E.fs E.cs (fn, fd, fv)) (putFC E.fs E.cs (fn, fd, fv)) (gn, gd, gv) = putFC (putFL E.fs E.cs (gn, gd, gv)) (putFC E.fs E.cs (gn, gd, gv)) (fn, fd, fv)) = true := by
      rw [decide_eq_true_iff, p1, p2, r1, r2, a1, a2, b1, b2]
      exact ⟨insL_comm hI (key_ne hne), rfl⟩
    have y1 : fndV (putFL E.fs E.cs (fn, fd, fv)) gn gd = fndV E.fs gn gd := by rw [a1]; exact (fnd_other hI (fn, fd, fv) gn gd hne).1
    have y2 : fndB (putFL E.fs E.cs (fn, fd, fv)) gn gd = fndB E.fs gn gd := by rw [a1]; exact (fnd_other hI (fn, fd, fv) gn gd hne).2
    by_cases q6 : choE (putFL E.fs E.cs (fn, fd, fv)) (putFC E.fs E.cs (fn, fd, fv)) (cp, cn, cd, cb) = 0
    · have dI : Inc Cx.key (putFC E.fs E.cs (fn, fd, fv)) := (inc_of (envE_zero ha0).2.2.2).1
      have d1 : choFL (putFL E.fs E.cs (fn, fd, fv)) (putFC E.fs E.cs (fn, fd, fv)) (cp, cn, cd, cb) = putFL E.fs E.cs (fn, fd, fv) := if_pos q6
      have d2 : choCL (putFL E.fs E.cs (fn, fd, fv)) (putFC E.fs E.cs (fn, fd, fv)) (cp, cn, cd, cb) = insL Cx.key (cp, cn, cd, cb) (putFC E.fs E.cs (fn, fd, fv)) := if_pos q6
      have hde := cho_env q6
      have hFd : ShF (choFL (putFL E.fs E.cs (fn, fd, fv)) (putFC E.fs E.cs (fn, fd, fv)) (cp, cn, cd, cb)) := hFa.cho
      have hx1 := fun W A c B k (b : EvK W A (choFL (putFL E.fs E.cs (fn, fd, fv)) (putFC E.fs E.cs (fn, fd, fv)) (cp, cn, cd, cb)) c B (choCL (putFL E.fs E.cs (fn, fd, fv)) (putFC E.fs E.cs (fn, fd, fv)) (cp, cn, cd, cb)) k) => pchosen_anyO ⟨A, _, c, B, _, k⟩ cp cn cd W b.i
      have c1 : chsB (choCL (putFL E.fs E.cs (fn, fd, fv)) (putFC E.fs E.cs (fn, fd, fv)) (cp, cn, cd, cb)) cp cn cd = cb := by rw [d2]; exact findC_put dI (cp, cn, cd, cb)
      have hx2 := fun W A c B k (a : VarR W) (b : EvK W A (choFL (putFL E.fs E.cs (fn, fd, fv)) (putFC E.fs E.cs (fn, fd, fv)) (cp, cn, cd, cb)) c B (choCL (putFL E.fs E.cs (fn, fd, fv)) (putFC E.fs E.cs (fn, fd, fv)) (cp, cn, cd, cb)) k) => pcheckEnv_any ⟨A, _, c, B, _, k⟩ W b.i a (fun f hf => (hFd f hf).2)
      have hx3 := fun W A c B k A' c' B' k' (b : EvK W A (choFL (putFL E.fs E.cs (fn, fd, fv)) (putFC E.fs E.cs (fn, fd, fv)) (cp, cn, cd, cb)) c B (choCL (putFL E.fs E.cs (fn, fd, fv)) (putFC E.fs E.cs (fn, fd, fv)) (cp, cn, cd, cb)) k) (a : EvK W A' (putFL E.fs E.cs (fn, fd, fv)) c' B' (putFC E.fs E.cs (fn, fd, fv)) k') => sameEnv_any ⟨A, _, c, B', _, k'⟩ ⟨A', _, c', B', _, k'⟩ true ⟨fun _ => ⟨d1, rfl⟩, fun _ => rfl⟩ W ⟨b.i.f, a.i.c, b.i.fl, a.i.cl, b.i.fb, a.i.cb⟩ a.i
      simp only [c1] at hx1
      simp only [hde] at hx2
      by_cases hn : fn = gn
      · have hd : (fd == gd) = false := by rw [beq_eq_false_iff_ne]; exact fun e => hne ⟨hn, e⟩
        exact puts_2 True True E.fA E.cA E.fs E.cs E.fc E.cc fn fv gn gv cp cn fd gd cd cb false _ _ _ _ _ _ _ _ _ _ _ _ _ _ _ 0 0 _ w hv hk z1 z2 z3 z4 z5 z6 hg h1 h2 h3 h4 h5 h6 h7 h8 h9 h10 hx1 hx2 hx3 (.inr ⟨trivial, trivial, rfl, q1, q2, q3, rfl, rfl, hn.symm, hd, y1, y2, hs, q6⟩)
      · have hd : (fn.toList == gn.toList) = false := by
          rcases str_cases fn gn with h | h
          · exact absurd h hn
          · exact h
        exact puts_2 True True E.fA E.cA E.fs E.cs E.fc E.cc fn fv gn gv cp cn fd gd cd cb false _ _ _ _ _ _ _ _ _ _ _ _ _ _ _ 0 0 _ w hv hk z1 z2 z3 z4 z5 z6 hg h1 h2 h3 h4 h5 h6 h7 h8 h9 h10 hx1 hx2 hx3 (.inl ⟨trivial, trivial, rfl, q1, q2, q3, rfl, rfl, hd, y1, y2, hs, q6⟩)
    · by_cases hn : fn = gn
      · have hd : (fd == gd) = false := by rw [beq_eq_false_iff_ne]; exact fun e => hne ⟨hn, e⟩
        exact puts_1 True True E.fA E.cA E.fs E.cs E.fc E.cc fn fv gn gv cp cn fd gd cd cb false _ _ _ _ _ _ _ _ _ _ _ _ _ _ _ 0 0 _ w hv hk z1 z2 z3 z4 z5 z6 hg h1 h2 h3 h4 h5 h6 h7 h8 h9 h10 (.inr (.inr (.inr (.inr (.inr (.inr (.inr (.inr ⟨trivial, trivial, rfl, q1, q2, q3, rfl, rfl, hn.symm, hd, y1, y2, hs, ne_decO q6⟩))))))))
      · have hd : (fn.toList == gn.toList) = false := by
          rcases str_cases fn gn with h | h
          · exact absurd h hn
          · exact h
        exact puts_1 True True E.fA E.cA E.fs E.cs E.fc E.cc fn fv gn gv cp cn fd gd cd cb false _ _ _ _ _ _ _ _ _ _ _ _ _ _ _ 0 0 _ w hv hk z1 z2 z3 z4 z5 z6 hg h1 h2 h3 h4 h5 h6 h7 h8 h9 h10 (.inr (.inr (.inr (.inr (.inr (.inr (.inr (.inl ⟨trivial, trivial, rfl, q1, q2, q3, rfl, rfl, hd, y1, y2, hs, ne_decO q6⟩))))))))
theorem puts_law8 : Calls Tryz.prog 9 #[E.val, .agg #[.string fn, .int .i64 fd, .string fv], .agg #[.string gn, .int .i64 gd, .string gv], .agg #[.string cp, .string cn, .int .i64 cd, .bool cb]] w (BoolRO true w) := by
  have hg : ∀ W, VarR W → EvK W E.fA E.fs E.fc E.cA E.cs E.cc → Calls Tryz.prog 24 #[E.val] W (BoolRO E.grt W) := fun W _ h => greatEnv_any E W h.i
  have hk : EvK w E.fA E.fs E.fc E.cA E.cs E.cc := ⟨hin, kF, kC⟩
  have no : ∀ {P : Prop}, False → P := fun h => h.elim
  cases hG : E.grt
  · rw [hG] at hg
    by_cases q1 : 990 < (E.fs.length : Int)
    · exact puts_1 False False E.fA E.cA E.fs E.cs E.fc E.cc fn fv gn gv cp cn fd gd cd cb false false false false fv fv [] [] [] [] [] [] [] [] [] [] 0 0 0 w hv hk z1 z2 z3 z4 z5 z6 hg no no no no no no no no no no (.inr (.inl ⟨rfl, q1⟩))
    by_cases q2 : 3000 < (fn.size : Int) + gn.size + cn.size + cp.size
    · exact puts_1 False False E.fA E.cA E.fs E.cs E.fc E.cc fn fv gn gv cp cn fd gd cd cb false false false false fv fv [] [] [] [] [] [] [] [] [] [] 0 0 0 w hv hk z1 z2 z3 z4 z5 z6 hg no no no no no no no no no no (.inr (.inr (.inl ⟨rfl, q1, q2⟩)))
    by_cases q3 : 3000 < (fv.size : Int) + gv.size
    · exact puts_1 False False E.fA E.cA E.fs E.cs E.fc E.cc fn fv gn gv cp cn fd gd cd cb false false false false fv fv [] [] [] [] [] [] [] [] [] [] 0 0 0 w hv hk z1 z2 z3 z4 z5 z6 hg no no no no no no no no no no (.inr (.inr (.inr (.inl ⟨rfl, q1, q2, q3⟩))))
    obtain ⟨-, -, s1, s2⟩ := Ev.grt_not hG
    have hF : ShF E.fs := fun f hf => ⟨by have := (s1 f hf).1; omega, by have := (s1 f hf).2; omega⟩
    have hC : ShC E.cs := fun c hc => ⟨by have := (s2 c hc).1; omega, by have := (s2 c hc).2; omega⟩
    have h1 : True → ∀ W, VarR W → EvK W E.fA E.fs E.fc E.cA E.cs E.cc → Calls Tryz.prog 19 #[E.val, .agg #[.string fn, .int .i64 fd, .string fv]] W (EvP (putFL E.fs E.cs (fn, fd, fv)) (putFC E.fs E.cs (fn, fd, fv)) (putFE E.fs E.cs (fn, fd, fv)) W) := fun _ W a b => call_put hF hC fn fv fd z1 (by omega) W a _ _ _ _ b
    have h2 : True → ∀ W, VarR W → EvK W E.fA E.fs E.fc E.cA E.cs E.cc → Calls Tryz.prog 19 #[E.val, .agg #[.string gn, .int .i64 gd, .string gv]] W (EvP (putFL E.fs E.cs (gn, gd, gv)) (putFC E.fs E.cs (gn, gd, gv)) (putFE E.fs E.cs (gn, gd, gv)) W) := fun _ W a b => call_put hF hC gn gv gd z2 (by omega) W a _ _ _ _ b
    by_cases q4 : putFE E.fs E.cs (fn, fd, fv) = 0
    · by_cases q5 : putFE E.fs E.cs (gn, gd, gv) = 0
      · exact puts_end E fn fv gn gv cp cn fd gd cd cb w hin kF kC hv z1 z2 z3 z4 z5 z6 hg hF hC h1 h2 q1 q2 q3 q4 q5
      · exact puts_1 False True E.fA E.cA E.fs E.cs E.fc E.cc fn fv gn gv cp cn fd gd cd cb false false false false fv fv _ _ [] [] [] _ _ [] [] [] _ _ 0 w hv hk z1 z2 z3 z4 z5 z6 hg h1 h2 no no no no no no no no (.inr (.inr (.inr (.inr (.inr (.inl ⟨trivial, rfl, q1, q2, q3, q4, ne_decO q5⟩))))))
    · exact puts_1 False True E.fA E.cA E.fs E.cs E.fc E.cc fn fv gn gv cp cn fd gd cd cb false false false false fv fv _ _ [] [] [] _ _ [] [] [] _ _ 0 w hv hk z1 z2 z3 z4 z5 z6 hg h1 h2 no no no no no no no no (.inr (.inr (.inr (.inr (.inl ⟨trivial, rfl, q1, q2, q3, ne_decO q4⟩)))))
  · rw [hG] at hg
    exact puts_1 False False E.fA E.cA E.fs E.cs E.fc E.cc fn fv gn gv cp cn fd gd cd cb true false false false fv fv [] [] [] [] [] [] [] [] [] [] 0 0 0 w hv hk z1 z2 z3 z4 z5 z6 hg no no no no no no no no no no (.inl ⟨rfl, trivial⟩)
end
end Go.Proofs.YtceooffedkalnaaGreatDoor

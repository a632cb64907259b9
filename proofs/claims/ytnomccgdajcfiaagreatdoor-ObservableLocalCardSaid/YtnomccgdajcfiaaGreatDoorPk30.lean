/- Joined: OeG, OeL6, OeL6b, OeN, OeQ. -/
import Derived.Test.YtnomccgdajcfiaaGreatDoorPk28
import Derived.Test.YtnomccgdajcfiaaGreatDoorPk29
import Derived.Test.YtnomccgdajcfiaaGreatDoorPk24
import Derived.Deep.RegionHeld3
/- Layer 8: the law's own function alive. -/
namespace Go.Proofs.YtnomccgdajcfiaaGreatDoor
open Go Go.RowKit Go.BigFrame
theorem valN_er {t u : Ex} (h : t.er = u.er) (day : Int) (fs : List Fx) (cs : List Cx) : valN t day fs cs = valN u day fs cs := by
  have h1 : t.siz = u.siz := Ex.fold_same _ h
  have h2 : t.dep = u.dep := Ex.fold_same _ h
  have h3 : t.srt = u.srt := Ex.fold_same _ h
  have h4 : t.ev fs day = u.ev fs day := Ex.fold_same _ h
  have h5 : t.k = u.k := by
    obtain ⟨k, r, n, d, A, c, s⟩ := t
    obtain ⟨k', r', n', d', A', c', s'⟩ := u
    exact (Ex.er_eq.1 h).1
  unfold valN askE Ex.chk Ex.many
  rw [h1, h2, h3, h4, h5]
def aF : Fx := (⟨#[115, 112, 111, 116]⟩, 5, ⟨#[55, 47, 50]⟩)
def aT (A B : Option Addr) (c d : Nat) : Ex := .mk 7 ⟨#[]⟩ ⟨#[]⟩ 0 A c [.mk 5 ⟨#[]⟩ ⟨#[]⟩ 0 B d [nowT ⟨#[115, 112, 111, 116]⟩, conT ⟨#[51]⟩], conT ⟨#[48]⟩]
theorem aT_er (A B : Option Addr) (c d : Nat) : (aT A B c d).er = (aT none none 0 0).er := rfl
theorem al1 : putFE [] [] aF = 0 := by decide +kernel
theorem al2 : putFL [] [] aF = [aF] ∧ putFC [] [] aF = [] := by decide +kernel
theorem al3 : valN (aT none none 0 0) 5 [aF] [] = (⟨#[49, 47, 50]⟩, 0) := by decide +kernel
theorem al4 : valN (aT none none 0 0) 6 [aF] [] = (⟨#[]⟩, 30) := by decide +kernel
theorem aT_siz (A B : Option Addr) (c d : Nat) : (aT A B c d).siz = 5 := rfl
theorem aT_byt (A B : Option Addr) (c d : Nat) : (aT A B c d).byt = 6 := rfl
abbrev aE (A : Option Addr) (c : Nat) (A2 : Option Addr) (c2 : Nat) : Ev := ⟨A, [aF], c, A2, [], c2⟩
def APut (w : World) (e : Ending) (w' : World) : Prop := ∃ A c A2 c2, e = .returned (.tuple #[.agg #[.slice A 1 c, .slice A2 0 c2], .int .i64 0]) ∧ (aE A c A2 c2).Inv w' ∧ Below w.heap.size w w'
theorem alive_put (w : World) (hv : VarR w) : Calls Tryz.prog 19 #[.agg #[.slice none 0 0, .slice none 0 0], .agg #[.string ⟨#[115, 112, 111, 116]⟩, .int .i64 5, .string ⟨#[55, 47, 50]⟩]] w (APut w) := by
  have h := pput_any ⟨none, [], 0, none, [], 0⟩ aF.1 aF.2.2 aF.2.1 w ⟨RowsR.nil, RowsR.nil, Nat.zero_le _, Nat.zero_le _, fun f hf => by simp at hf, fun f hf => by simp at hf⟩ hv (fun f hf => by simp at hf) ⟨Nat.le_refl _, Nat.zero_le _, fun _ => rfl⟩ (by decide)
  refine h.mono fun e w' hp => ?_
  have hp : PutO (putFL [] [] aF) (putFC [] [] aF) (putFE [] [] aF) w e w' := hp
  rw [al1, al2.1, al2.2] at hp
  obtain ⟨A, c, A2, c2, h1, h2, -, -, -, -, h3⟩ := hp.ev (by simp) (by simp) (fun f hf => by simp at hf; subst hf; decide) (fun f hf => by simp at hf)
  exact ⟨A, c, A2, c2, h1, ⟨h2, hv.below h3⟩, h3⟩
theorem alive_val (b1 b2 : Nat) (A : Option Addr) (c : Nat) (A2 : Option Addr) (c2 : Nat) (day : Int) (v : ByteArray) (g : Int) (hd : valN (aT none none 0 0) day [aF] [] = (v, g)) (W : World) (hT : (pairT 7 b2 (pairT 5 b1 (nowT ⟨#[115, 112, 111, 116]⟩) (conT ⟨#[51]⟩)) (conT ⟨#[48]⟩)).In W) (hE : (aE A c A2 c2).Inv W) :
    Calls Tryz.prog 17 #[(pairT 7 b2 (pairT 5 b1 (nowT ⟨#[115, 112, 111, 116]⟩) (conT ⟨#[51]⟩)) (conT ⟨#[48]⟩)).val, .int .i64 day, .agg #[.slice A 1 c, .slice A2 0 c2]] W (StE v g W) := by
  have h := pvalue_any (aT (some ⟨b2, 0, none⟩) (some ⟨b1, 0, none⟩) 2 2) (aE A c A2 c2) day W hT hE (by rw [aT_siz]; decide) (by rw [aT_byt]; decide) (fun f hf => by simp at hf; subst hf; decide)
  have e : valN (aT (some ⟨b2, 0, none⟩) (some ⟨b1, 0, none⟩) 2 2) day (aE A c A2 c2).fs (aE A c A2 c2).cs = (v, g) := (valN_er (aT_er _ _ _ _) _ _ _).trans hd
  rw [e] at h
  exact h
set_option maxRecDepth 100000 in
set_option maxHeartbeats 6400000 in
theorem alive_any8 (w : World) (hv : VarR w) : Calls Tryz.prog 23 #[] w (BoolRO true w) := by
  have HP := Lib.hid (alive_put w hv)
  have HC := Lib.hid con_any8
  have HN := Lib.hid now_any8
  have HQ := Lib.hid pair_any8
  have HV := Lib.hid alive_val
  clear hv
  go_enter Tryz.func23, Tryz.ntmps23
  go_wp2_with (first
    | (go_at_call 17; have _t := HW9; ((with_reducible refine (HV6.out _ (T2.out.below HX9.out) IE9.out).mono ?_); rintro u w10 ⟨rfl, hb⟩; have HW10 := Lib.hid (btO HW9.out hb); clear hb))
    | (go_at_call 17; ((with_reducible refine (HV5.out _ (T2.out.below (belO _ _)) (IE.out.below (btO (btO (belO w2 _) HA7.out) (belO _ _)))).mono ?_); rintro u w9 ⟨rfl, hb⟩; have HX9 := Lib.hid (btO (belO w7 _) hb); have HT := heap_alloc_new w7 (.cells #[.int .u8 T.k, .string T.r, .string T.n, .int .i64 T.d, .slice T.A T.sub.length T.c] 26); have l0 := cellO hb (row_cell (j := 0) HT rfl); have l1 := cellO hb (row_cell (j := 1) HT rfl); have l2 := cellO hb (row_cell (j := 2) HT rfl); have l3 := cellO hb (row_cell (j := 3) HT rfl); have l4 := cellO hb (row_cell (j := 4) HT rfl); have q0 := cellO hb (d0 (.cells #[.int .u8 T.k, .string T.r, .string T.n, .int .i64 T.d, .slice T.A T.sub.length T.c] 26)); have q1 := cellO hb (d1 (.cells #[.int .u8 T.k, .string T.r, .string T.n, .int .i64 T.d, .slice T.A T.sub.length T.c] 26)); have IE9 := Lib.hid (IE.out.below (btO (btO (belO w2 _) HA7.out) HX9.out)); have HW9 := Lib.hid (btO HW7.out HX9.out); clear hb HT d0 d1))
    | (go_at_call 12; have _t := HW6; ((with_reducible refine (HQ.out 7 (by decide) (by decide) _ (conT ⟨#[48]⟩) _ T1.out (conT_in _ (by decide))).mono ?_); rintro u w7 ⟨b2, rfl, ht, hb⟩; have HW7 := Lib.hid (btO HW6.out hb); have HA7 := Lib.hid (btO HA6.out hb); have T2 := Lib.hid ht; have HV5 := Lib.hid (fun W h1 h2 => HV.out b1 b2 A c A2 c2 5 _ _ al3 W h1 h2); have HV6 := Lib.hid (fun W h1 h2 => HV.out b1 b2 A c A2 c2 6 _ _ al4 W h1 h2); have d0 := fun o : Obj => cellO (belO w7 o) (cellO HA7.out (row_cell (j := 0) HR.out rfl)); have d1 := fun o : Obj => cellO (belO w7 o) (cellO HA7.out (row_cell (j := 1) HR.out rfl)); clear ht hb; generalize pairT 7 b2 (pairT 5 b1 (nowT ⟨#[115, 112, 111, 116]⟩) (conT ⟨#[51]⟩)) (conT ⟨#[48]⟩) = T at *))
    | (go_at_call 11; have _t := HW5; ((with_reducible refine (HC.out _ _).mono ?_); rintro u w6 ⟨rfl, hb⟩; have HW6 := Lib.hid (btO HW5.out hb); have HA6 := Lib.hid (btO HA5.out hb); have T1 := Lib.hid (T0.out.below hb); clear hb))
    | (go_at_call 12; ((with_reducible refine (HQ.out 5 (by decide) (by decide) (nowT ⟨#[115, 112, 111, 116]⟩) (conT ⟨#[51]⟩) _ (nowT_in _ (by decide)) (conT_in _ (by decide))).mono ?_); rintro u w5 ⟨b1, rfl, ht, hb⟩; have T0 := Lib.hid ht; have HW5 := Lib.hid (btO HW4.out hb); have HA5 := Lib.hid (btO HA4.out hb); clear ht hb))
    | (go_at_call 11; ((with_reducible refine (HC.out _ _).mono ?_); rintro u w4 ⟨rfl, hb⟩; have HW4 := Lib.hid (btO HW3.out hb); have HA4 := Lib.hid (btO HA3.out hb); clear hb))
    | (go_at_call 16; ((with_reducible refine (HN.out _ _).mono ?_); rintro u w3 ⟨rfl, hb⟩; have HA3 := Lib.hid hb; have HW3 := Lib.hid (btO HW2.out (btO (belO w2 _) hb)); clear hb))
    | (go_at_call 19; ((with_reducible refine HP.out.mono ?_); rintro u w2 ⟨A, c, A2, c2, rfl, he, hb⟩; have IE := Lib.hid he; have HW2 := Lib.hid hb; have HR := Lib.hid (heap_alloc_new w2 (.cells #[.slice A 1 c, .slice A2 0 c2] 38)); clear he hb)))
  go_ret
  exact ⟨rfl, HW10.out⟩
end Go.Proofs.YtnomccgdajcfiaaGreatDoor
/- The law ObservableLogic: the walks. -/
namespace Go.Proofs.YtnomccgdajcfiaaGreatDoor
open Go Go.RowKit Go.BigFrame
structure LoG (Q : Nat) (P R X Y : Ex) (E : Ev) (W : World) : Prop where
  a0 : W.cell? ⟨Q, 0, none⟩ = some (.int .u8 P.k)
  a1 : W.cell? ⟨Q, 1, none⟩ = some (.string P.r)
  a2 : W.cell? ⟨Q, 2, none⟩ = some (.string P.n)
  a3 : W.cell? ⟨Q, 3, none⟩ = some (.int .i64 P.d)
  a4 : W.cell? ⟨Q, 4, none⟩ = some (.slice P.A P.sub.length P.c)
  b0 : W.cell? ⟨Q + 1, 0, none⟩ = some (.int .u8 R.k)
  b1 : W.cell? ⟨Q + 1, 1, none⟩ = some (.string R.r)
  b2 : W.cell? ⟨Q + 1, 2, none⟩ = some (.string R.n)
  b3 : W.cell? ⟨Q + 1, 3, none⟩ = some (.int .i64 R.d)
  b4 : W.cell? ⟨Q + 1, 4, none⟩ = some (.slice R.A R.sub.length R.c)
  x0 : W.cell? ⟨Q + 1 + 1, 0, none⟩ = some (.int .u8 X.k)
  x1 : W.cell? ⟨Q + 1 + 1, 1, none⟩ = some (.string X.r)
  x2 : W.cell? ⟨Q + 1 + 1, 2, none⟩ = some (.string X.n)
  x3 : W.cell? ⟨Q + 1 + 1, 3, none⟩ = some (.int .i64 X.d)
  x4 : W.cell? ⟨Q + 1 + 1, 4, none⟩ = some (.slice X.A X.sub.length X.c)
  y0 : W.cell? ⟨Q + 1 + 1 + 1, 0, none⟩ = some (.int .u8 Y.k)
  y1 : W.cell? ⟨Q + 1 + 1 + 1, 1, none⟩ = some (.string Y.r)
  y2 : W.cell? ⟨Q + 1 + 1 + 1, 2, none⟩ = some (.string Y.n)
  y3 : W.cell? ⟨Q + 1 + 1 + 1, 3, none⟩ = some (.int .i64 Y.d)
  y4 : W.cell? ⟨Q + 1 + 1 + 1, 4, none⟩ = some (.slice Y.A Y.sub.length Y.c)
  v0 : W.cell? ⟨Q + 1 + 1 + 1 + 1, 0, none⟩ = some (.slice E.fA E.fs.length E.fc)
  v1 : W.cell? ⟨Q + 1 + 1 + 1 + 1, 1, none⟩ = some (.slice E.cA E.cs.length E.cc)
theorem LoG.below {Q : Nat} {P R X Y : Ex} {E : Ev} {W W' : World} (h : LoG Q P R X Y E W) (hb : Below W.heap.size W W') : LoG Q P R X Y E W' := ⟨cellO hb h.a0, cellO hb h.a1, cellO hb h.a2, cellO hb h.a3, cellO hb h.a4, cellO hb h.b0, cellO hb h.b1, cellO hb h.b2, cellO hb h.b3, cellO hb h.b4, cellO hb h.x0, cellO hb h.x1, cellO hb h.x2, cellO hb h.x3, cellO hb h.x4, cellO hb h.y0, cellO hb h.y1, cellO hb h.y2, cellO hb h.y3, cellO hb h.y4, cellO hb h.v0, cellO hb h.v1⟩
theorem lo_begin (w : World) (P R X Y : Ex) (E : Ev) : ∃ w1, (((((w.alloc (.cells #[.int .u8 P.k, .string P.r, .string P.n, .int .i64 P.d, .slice P.A P.sub.length P.c] 26)).alloc (.cells #[.int .u8 R.k, .string R.r, .string R.n, .int .i64 R.d, .slice R.A R.sub.length R.c] 26)).alloc (.cells #[.int .u8 X.k, .string X.r, .string X.n, .int .i64 X.d, .slice X.A X.sub.length X.c] 26)).alloc (.cells #[.int .u8 Y.k, .string Y.r, .string Y.n, .int .i64 Y.d, .slice Y.A Y.sub.length Y.c] 26)).alloc (.cells #[.slice E.fA E.fs.length E.fc, .slice E.cA E.cs.length E.cc] 38)) = w1 ∧ Below w.heap.size w w1 ∧ LoG w.heap.size P R X Y E w1 := by
  have r0 := heap_alloc_new w (.cells #[.int .u8 P.k, .string P.r, .string P.n, .int .i64 P.d, .slice P.A P.sub.length P.c] 26)
  have r1 := heap_alloc_new (w.alloc (.cells #[.int .u8 P.k, .string P.r, .string P.n, .int .i64 P.d, .slice P.A P.sub.length P.c] 26)) (.cells #[.int .u8 R.k, .string R.r, .string R.n, .int .i64 R.d, .slice R.A R.sub.length R.c] 26)
  rw [World.size_alloc] at r1
  have r2 := heap_alloc_new ((w.alloc (.cells #[.int .u8 P.k, .string P.r, .string P.n, .int .i64 P.d, .slice P.A P.sub.length P.c] 26)).alloc (.cells #[.int .u8 R.k, .string R.r, .string R.n, .int .i64 R.d, .slice R.A R.sub.length R.c] 26)) (.cells #[.int .u8 X.k, .string X.r, .string X.n, .int .i64 X.d, .slice X.A X.sub.length X.c] 26)
  rw [World.size_alloc, World.size_alloc] at r2
  have r3 := heap_alloc_new (((w.alloc (.cells #[.int .u8 P.k, .string P.r, .string P.n, .int .i64 P.d, .slice P.A P.sub.length P.c] 26)).alloc (.cells #[.int .u8 R.k, .string R.r, .string R.n, .int .i64 R.d, .slice R.A R.sub.length R.c] 26)).alloc (.cells #[.int .u8 X.k, .string X.r, .string X.n, .int .i64 X.d, .slice X.A X.sub.length X.c] 26)) (.cells #[.int .u8 Y.k, .string Y.r, .string Y.n, .int .i64 Y.d, .slice Y.A Y.sub.length Y.c] 26)
  rw [World.size_alloc, World.size_alloc, World.size_alloc] at r3
  have r4 := heap_alloc_new ((((w.alloc (.cells #[.int .u8 P.k, .string P.r, .string P.n, .int .i64 P.d, .slice P.A P.sub.length P.c] 26)).alloc (.cells #[.int .u8 R.k, .string R.r, .string R.n, .int .i64 R.d, .slice R.A R.sub.length R.c] 26)).alloc (.cells #[.int .u8 X.k, .string X.r, .string X.n, .int .i64 X.d, .slice X.A X.sub.length X.c] 26)).alloc (.cells #[.int .u8 Y.k, .string Y.r, .string Y.n, .int .i64 Y.d, .slice Y.A Y.sub.length Y.c] 26)) (.cells #[.slice E.fA E.fs.length E.fc, .slice E.cA E.cs.length E.cc] 38)
  rw [World.size_alloc, World.size_alloc, World.size_alloc, World.size_alloc] at r4
  have b4 := belO ((((w.alloc (.cells #[.int .u8 P.k, .string P.r, .string P.n, .int .i64 P.d, .slice P.A P.sub.length P.c] 26)).alloc (.cells #[.int .u8 R.k, .string R.r, .string R.n, .int .i64 R.d, .slice R.A R.sub.length R.c] 26)).alloc (.cells #[.int .u8 X.k, .string X.r, .string X.n, .int .i64 X.d, .slice X.A X.sub.length X.c] 26)).alloc (.cells #[.int .u8 Y.k, .string Y.r, .string Y.n, .int .i64 Y.d, .slice Y.A Y.sub.length Y.c] 26)) (.cells #[.slice E.fA E.fs.length E.fc, .slice E.cA E.cs.length E.cc] 38)
  have b3 := btO (belO (((w.alloc (.cells #[.int .u8 P.k, .string P.r, .string P.n, .int .i64 P.d, .slice P.A P.sub.length P.c] 26)).alloc (.cells #[.int .u8 R.k, .string R.r, .string R.n, .int .i64 R.d, .slice R.A R.sub.length R.c] 26)).alloc (.cells #[.int .u8 X.k, .string X.r, .string X.n, .int .i64 X.d, .slice X.A X.sub.length X.c] 26)) (.cells #[.int .u8 Y.k, .string Y.r, .string Y.n, .int .i64 Y.d, .slice Y.A Y.sub.length Y.c] 26)) b4
  have b2 := btO (belO ((w.alloc (.cells #[.int .u8 P.k, .string P.r, .string P.n, .int .i64 P.d, .slice P.A P.sub.length P.c] 26)).alloc (.cells #[.int .u8 R.k, .string R.r, .string R.n, .int .i64 R.d, .slice R.A R.sub.length R.c] 26)) (.cells #[.int .u8 X.k, .string X.r, .string X.n, .int .i64 X.d, .slice X.A X.sub.length X.c] 26)) b3
  have b1 := btO (belO (w.alloc (.cells #[.int .u8 P.k, .string P.r, .string P.n, .int .i64 P.d, .slice P.A P.sub.length P.c] 26)) (.cells #[.int .u8 R.k, .string R.r, .string R.n, .int .i64 R.d, .slice R.A R.sub.length R.c] 26)) b2
  exact ⟨_, rfl, btO (belO w _) b1, ⟨cellO b1 (row_cell (j := 0) r0 rfl), cellO b1 (row_cell (j := 1) r0 rfl), cellO b1 (row_cell (j := 2) r0 rfl), cellO b1 (row_cell (j := 3) r0 rfl), cellO b1 (row_cell (j := 4) r0 rfl), cellO b2 (row_cell (j := 0) r1 rfl), cellO b2 (row_cell (j := 1) r1 rfl), cellO b2 (row_cell (j := 2) r1 rfl), cellO b2 (row_cell (j := 3) r1 rfl), cellO b2 (row_cell (j := 4) r1 rfl), cellO b3 (row_cell (j := 0) r2 rfl), cellO b3 (row_cell (j := 1) r2 rfl), cellO b3 (row_cell (j := 2) r2 rfl), cellO b3 (row_cell (j := 3) r2 rfl), cellO b3 (row_cell (j := 4) r2 rfl), cellO b4 (row_cell (j := 0) r3 rfl), cellO b4 (row_cell (j := 1) r3 rfl), cellO b4 (row_cell (j := 2) r3 rfl), cellO b4 (row_cell (j := 3) r3 rfl), cellO b4 (row_cell (j := 4) r3 rfl), (row_cell (j := 0) r4 rfl), (row_cell (j := 1) r4 rfl)⟩⟩
theorem built1 (k : Int) (h0 : 0 ≤ k) (h1 : k ≤ 255) (x : Ex) (w : World) (t : TypeId) (hx : x.In w) : (Ex.mk k ⟨#[]⟩ ⟨#[]⟩ 0 (some ⟨w.heap.size, 0, none⟩) 1 [x]).In (w.alloc (.cells #[.int .u8 x.k, .string x.r, .string x.n, .int .i64 x.d, .slice x.A x.sub.length x.c] t)) := by
  have hR := heap_alloc_new w (.cells #[.int .u8 x.k, .string x.r, .string x.n, .int .i64 x.d, .slice x.A x.sub.length x.c] t)
  have hB := belO w (.cells #[.int .u8 x.k, .string x.r, .string x.n, .int .i64 x.d, .slice x.A x.sub.length x.c] t)
  generalize w.alloc (.cells #[.int .u8 x.k, .string x.r, .string x.n, .int .i64 x.d, .slice x.A x.sub.length x.c] t) = W at *
  rw [Ex.in_mk]
  refine ⟨⟨h0, h1, by show -9223372036854775808 ≤ (0 : Int); decide, by show (0 : Int) ≤ 9223372036854775807; decide, Nat.zero_le _, Nat.zero_le _, Nat.le_refl _, by show 1 ≤ 140737488351232; decide, fun h => by cases h⟩, fun j hj => ?_⟩
  have hj : j = 0 := by simp at hj; omega
  subst hj
  · refine ⟨⟨_, 0, rfl, lt_of_block hR, fun i v hv => ?_⟩, hx.below hB⟩
    have hi : i = 0 ∨ i = 1 ∨ i = 2 ∨ i = 3 ∨ i = 4 := by have := (List.getElem?_eq_some_iff.1 hv).1; unfold Ex.cel at this; simp at this; omega
    rcases hi with rfl | rfl | rfl | rfl | rfl <;> exact row_cell hR hv
theorem built3 (k : Int) (h0 : 0 ≤ k) (h1 : k ≤ 255) (x y z : Ex) (w : World) (t : TypeId) (hx : x.In w) (hy : y.In w) (hz : z.In w) : (Ex.mk k ⟨#[]⟩ ⟨#[]⟩ 0 (some ⟨w.heap.size, 0, none⟩) 3 [x, y, z]).In (w.alloc (.cells #[.int .u8 x.k, .string x.r, .string x.n, .int .i64 x.d, .slice x.A x.sub.length x.c, .int .u8 y.k, .string y.r, .string y.n, .int .i64 y.d, .slice y.A y.sub.length y.c, .int .u8 z.k, .string z.r, .string z.n, .int .i64 z.d, .slice z.A z.sub.length z.c] t)) := by
  have hR := heap_alloc_new w (.cells #[.int .u8 x.k, .string x.r, .string x.n, .int .i64 x.d, .slice x.A x.sub.length x.c, .int .u8 y.k, .string y.r, .string y.n, .int .i64 y.d, .slice y.A y.sub.length y.c, .int .u8 z.k, .string z.r, .string z.n, .int .i64 z.d, .slice z.A z.sub.length z.c] t)
  have hB := belO w (.cells #[.int .u8 x.k, .string x.r, .string x.n, .int .i64 x.d, .slice x.A x.sub.length x.c, .int .u8 y.k, .string y.r, .string y.n, .int .i64 y.d, .slice y.A y.sub.length y.c, .int .u8 z.k, .string z.r, .string z.n, .int .i64 z.d, .slice z.A z.sub.length z.c] t)
  generalize w.alloc (.cells #[.int .u8 x.k, .string x.r, .string x.n, .int .i64 x.d, .slice x.A x.sub.length x.c, .int .u8 y.k, .string y.r, .string y.n, .int .i64 y.d, .slice y.A y.sub.length y.c, .int .u8 z.k, .string z.r, .string z.n, .int .i64 z.d, .slice z.A z.sub.length z.c] t) = W at *
  rw [Ex.in_mk]
  refine ⟨⟨h0, h1, by show -9223372036854775808 ≤ (0 : Int); decide, by show (0 : Int) ≤ 9223372036854775807; decide, Nat.zero_le _, Nat.zero_le _, Nat.le_refl _, by show 3 ≤ 140737488351232; decide, fun h => by cases h⟩, fun j hj => ?_⟩
  have hj : j = 0 ∨ j = 1 ∨ j = 2 := by simp at hj; omega
  rcases hj with rfl | rfl | rfl
  · refine ⟨⟨_, 0, rfl, lt_of_block hR, fun i v hv => ?_⟩, hx.below hB⟩
    have hi : i = 0 ∨ i = 1 ∨ i = 2 ∨ i = 3 ∨ i = 4 := by have := (List.getElem?_eq_some_iff.1 hv).1; unfold Ex.cel at this; simp at this; omega
    rcases hi with rfl | rfl | rfl | rfl | rfl <;> exact row_cell hR hv
  · refine ⟨⟨_, 0, rfl, lt_of_block hR, fun i v hv => ?_⟩, hy.below hB⟩
    have hi : i = 0 ∨ i = 1 ∨ i = 2 ∨ i = 3 ∨ i = 4 := by have := (List.getElem?_eq_some_iff.1 hv).1; unfold Ex.cel at this; simp at this; omega
    rcases hi with rfl | rfl | rfl | rfl | rfl <;> exact row_cell hR hv
  · refine ⟨⟨_, 0, rfl, lt_of_block hR, fun i v hv => ?_⟩, hz.below hB⟩
    have hi : i = 0 ∨ i = 1 ∨ i = 2 ∨ i = 3 ∨ i = 4 := by have := (List.getElem?_eq_some_iff.1 hv).1; unfold Ex.cel at this; simp at this; omega
    rcases hi with rfl | rfl | rfl | rfl | rfl <;> exact row_cell hR hv
theorem belo3 (w : World) (P R X Y : Ex) : Below w.heap.size w (w.alloc (.cells #[.int .u8 P.k, .string P.r, .string P.n, .int .i64 P.d, .slice P.A P.sub.length P.c, .int .u8 R.k, .string R.r, .string R.n, .int .i64 R.d, .slice R.A R.sub.length R.c, .int .u8 X.k, .string X.r, .string X.n, .int .i64 X.d, .slice X.A X.sub.length X.c, .int .u8 Y.k, .string Y.r, .string Y.n, .int .i64 Y.d, .slice Y.A Y.sub.length Y.c] 26)) := belO w _
set_option maxRecDepth 100000 in
set_option maxHeartbeats 25600000 in
theorem logic_out (P R X Y : Ex) (E : Ev) (day : Int) (gP gR gX gY : Bool) (sP dP sR dR sX dX sY dY : Int) (w : World)
    (hal : ∀ W, Below w.heap.size w W → Calls Tryz.prog 23 #[] W (BoolRO true W))
    (hgP : ∀ W, Below w.heap.size w W → Calls Tryz.prog 34 #[.agg #[.int .u8 P.k, .string P.r, .string P.n, .int .i64 P.d, .slice P.A P.sub.length P.c]] W (BoolRO gP W))
    (hsP : gP = false → ∀ W, Below w.heap.size w W → Calls Tryz.prog 37 #[.agg #[.int .u8 P.k, .string P.r, .string P.n, .int .i64 P.d, .slice P.A P.sub.length P.c]] W (IntRO sP W))
    (hdP : gP = false → ∀ W, Below w.heap.size w W → Calls Tryz.prog 38 #[.agg #[.int .u8 P.k, .string P.r, .string P.n, .int .i64 P.d, .slice P.A P.sub.length P.c]] W (IntRO dP W))
    (hgR : ∀ W, Below w.heap.size w W → Calls Tryz.prog 34 #[.agg #[.int .u8 R.k, .string R.r, .string R.n, .int .i64 R.d, .slice R.A R.sub.length R.c]] W (BoolRO gR W))
    (hsR : gR = false → ∀ W, Below w.heap.size w W → Calls Tryz.prog 37 #[.agg #[.int .u8 R.k, .string R.r, .string R.n, .int .i64 R.d, .slice R.A R.sub.length R.c]] W (IntRO sR W))
    (hdR : gR = false → ∀ W, Below w.heap.size w W → Calls Tryz.prog 38 #[.agg #[.int .u8 R.k, .string R.r, .string R.n, .int .i64 R.d, .slice R.A R.sub.length R.c]] W (IntRO dR W))
    (hgX : ∀ W, Below w.heap.size w W → Calls Tryz.prog 34 #[.agg #[.int .u8 X.k, .string X.r, .string X.n, .int .i64 X.d, .slice X.A X.sub.length X.c]] W (BoolRO gX W))
    (hsX : gX = false → ∀ W, Below w.heap.size w W → Calls Tryz.prog 37 #[.agg #[.int .u8 X.k, .string X.r, .string X.n, .int .i64 X.d, .slice X.A X.sub.length X.c]] W (IntRO sX W))
    (hdX : gX = false → ∀ W, Below w.heap.size w W → Calls Tryz.prog 38 #[.agg #[.int .u8 X.k, .string X.r, .string X.n, .int .i64 X.d, .slice X.A X.sub.length X.c]] W (IntRO dX W))
    (hgY : ∀ W, Below w.heap.size w W → Calls Tryz.prog 34 #[.agg #[.int .u8 Y.k, .string Y.r, .string Y.n, .int .i64 Y.d, .slice Y.A Y.sub.length Y.c]] W (BoolRO gY W))
    (hsY : gY = false → ∀ W, Below w.heap.size w W → Calls Tryz.prog 37 #[.agg #[.int .u8 Y.k, .string Y.r, .string Y.n, .int .i64 Y.d, .slice Y.A Y.sub.length Y.c]] W (IntRO sY W))
    (hdY : gY = false → ∀ W, Below w.heap.size w W → Calls Tryz.prog 38 #[.agg #[.int .u8 Y.k, .string Y.r, .string Y.n, .int .i64 Y.d, .slice Y.A Y.sub.length Y.c]] W (IntRO dY W))
    (key : ((gP = true ∨ (gP = false ∧ 100 < sP) ∨ (gP = false ∧ ¬ 100 < sP ∧ 59 < dP))) ∨ (gP = false ∧ ¬ 100 < sP ∧ ¬ 59 < dP ∧ (gR = true ∨ (gR = false ∧ 100 < sR) ∨ (gR = false ∧ ¬ 100 < sR ∧ 59 < dR))) ∨ (gP = false ∧ ¬ 100 < sP ∧ ¬ 59 < dP ∧ gR = false ∧ ¬ 100 < sR ∧ ¬ 59 < dR ∧ (gX = true ∨ (gX = false ∧ 100 < sX) ∨ (gX = false ∧ ¬ 100 < sX ∧ 59 < dX))) ∨ (gP = false ∧ ¬ 100 < sP ∧ ¬ 59 < dP ∧ gR = false ∧ ¬ 100 < sR ∧ ¬ 59 < dR ∧ gX = false ∧ ¬ 100 < sX ∧ ¬ 59 < dX ∧ (gY = true ∨ (gY = false ∧ 100 < sY) ∨ (gY = false ∧ ¬ 100 < sY ∧ 59 < dY)))) :
    Calls Tryz.prog 7 #[.agg #[.int .u8 P.k, .string P.r, .string P.n, .int .i64 P.d, .slice P.A P.sub.length P.c], .agg #[.int .u8 R.k, .string R.r, .string R.n, .int .i64 R.d, .slice R.A R.sub.length R.c], .agg #[.int .u8 X.k, .string X.r, .string X.n, .int .i64 X.d, .slice X.A X.sub.length X.c], .agg #[.int .u8 Y.k, .string Y.r, .string Y.n, .int .i64 Y.d, .slice Y.A Y.sub.length Y.c], .int .i64 day, .agg #[.slice E.fA E.fs.length E.fc, .slice E.cA E.cs.length E.cc]] w (BoolRO true w) := by
  obtain ⟨w1, hw1, hB, hS⟩ := lo_begin w P R X Y E
  have HB := Lib.hid hB
  have HG := Lib.hid (fun W (hW : Below w1.heap.size w1 W) => hS.below hW)
  have Hal := Lib.hid (fun W (hW : Below w1.heap.size w1 W) => hal W (btO hB hW))
  have HgP := Lib.hid (fun W (hW : Below w1.heap.size w1 W) => hgP W (btO hB hW))
  have HsP := Lib.hid (fun o W (hW : Below w1.heap.size w1 W) => hsP o W (btO hB hW))
  have HdP := Lib.hid (fun o W (hW : Below w1.heap.size w1 W) => hdP o W (btO hB hW))
  have HgR := Lib.hid (fun W (hW : Below w1.heap.size w1 W) => hgR W (btO hB hW))
  have HsR := Lib.hid (fun o W (hW : Below w1.heap.size w1 W) => hsR o W (btO hB hW))
  have HdR := Lib.hid (fun o W (hW : Below w1.heap.size w1 W) => hdR o W (btO hB hW))
  have HgX := Lib.hid (fun W (hW : Below w1.heap.size w1 W) => hgX W (btO hB hW))
  have HsX := Lib.hid (fun o W (hW : Below w1.heap.size w1 W) => hsX o W (btO hB hW))
  have HdX := Lib.hid (fun o W (hW : Below w1.heap.size w1 W) => hdX o W (btO hB hW))
  have HgY := Lib.hid (fun W (hW : Below w1.heap.size w1 W) => hgY W (btO hB hW))
  have HsY := Lib.hid (fun o W (hW : Below w1.heap.size w1 W) => hsY o W (btO hB hW))
  have HdY := Lib.hid (fun o W (hW : Below w1.heap.size w1 W) => hdY o W (btO hB hW))
  have HW1 := Lib.hid (Below.refl w1.heap.size w1)
  clear hB hS hal hgP hsP hdP hgR hsR hdR hgX hsX hdX hgY hsY hdY
  obtain ⟨a0, a1, a2, a3, a4, b0, b1, b2, b3, b4, x0, x1, x2, x3, x4, y0, y1, y2, y3, y4, v0, v1⟩ := HG.out _ HW1.out
  rcases key with hf | ⟨rfl, c0, e0, hf⟩ | ⟨rfl, c0, e0, rfl, c1, e1, hf⟩ | ⟨rfl, c0, e0, rfl, c1, e1, rfl, c2, e2, hf⟩
  · skip
    go_enter Tryz.func7, Tryz.ntmps7
    go_wp2_with (first | (go_at_call 23; have _t := HW1; ((with_reducible refine (Hal.out _ HW1.out).mono ?_); rintro u w2 ⟨rfl, hb⟩; clear a0 a1 a2 a3 a4 b0 b1 b2 b3 b4 x0 x1 x2 x3 x4 y0 y1 y2 y3 y4 v0 v1; have HW2 := Lib.hid (btO HW1.out hb); obtain ⟨a0, a1, a2, a3, a4, b0, b1, b2, b3, b4, x0, x1, x2, x3, x4, y0, y1, y2, y3, y4, v0, v1⟩ := HG.out _ HW2.out; clear hb)))
    have HR := Lib.hid (heap_alloc_new w2 (.cells #[.int .u8 P.k, .string P.r, .string P.n, .int .i64 P.d, .slice P.A P.sub.length P.c, .int .u8 R.k, .string R.r, .string R.n, .int .i64 R.d, .slice R.A R.sub.length R.c, .int .u8 X.k, .string X.r, .string X.n, .int .i64 X.d, .slice X.A X.sub.length X.c, .int .u8 Y.k, .string Y.r, .string Y.n, .int .i64 Y.d, .slice Y.A Y.sub.length Y.c] 26))
    have HW3 := Lib.hid (btO HW2.out (belo3 w2 P R X Y))
    clear a0 a1 a2 a3 a4 b0 b1 b2 b3 b4 x0 x1 x2 x3 x4 y0 y1 y2 y3 y4 v0 v1 hw1
    generalize w2.alloc (.cells #[.int .u8 P.k, .string P.r, .string P.n, .int .i64 P.d, .slice P.A P.sub.length P.c, .int .u8 R.k, .string R.r, .string R.n, .int .i64 R.d, .slice R.A R.sub.length R.c, .int .u8 X.k, .string X.r, .string X.n, .int .i64 X.d, .slice X.A X.sub.length X.c, .int .u8 Y.k, .string Y.r, .string Y.n, .int .i64 Y.d, .slice Y.A Y.sub.length Y.c] 26) = w3 at *
    go_loopw [38] (fun i wr => ∃ (k : Nat), k ≤ 0 ∧ i = .int .i64 k ∧ Hid (Below w3.heap.size w3 wr)) (fun i _ => 4 - (intOf i).toNat)
    case atStart => exact ⟨0, by omega, rfl, Below.refl _ _⟩
    case round =>
      obtain ⟨k, hk, rfl, HW⟩ := hrel
      have hk : k = 0 := by omega
      subst hk
      · rcases hf with rfl | ⟨rfl, hf⟩ | ⟨rfl, hf, hf2⟩
        all_goals (
          have t0 := cellO HW.out (row_cell (j := 0) HR.out rfl)
          have t1 := cellO HW.out (row_cell (j := 1) HR.out rfl)
          have t2 := cellO HW.out (row_cell (j := 2) HR.out rfl)
          have t3 := cellO HW.out (row_cell (j := 3) HR.out rfl)
          have t4 := cellO HW.out (row_cell (j := 4) HR.out rfl)
          have HX := Lib.hid (btO HW3.out HW.out)
          have HV0 : Hid (Ex.Box (wr.alloc (.cells #[.int .u8 P.k, .string P.r, .string P.n, .int .i64 P.d, .slice P.A P.sub.length P.c] 26)) wr.heap.size P) := Ex.Box.new wr P 26
          have HX0 := Lib.hid (btO HX.out (belO wr (.cells #[.int .u8 P.k, .string P.r, .string P.n, .int .i64 P.d, .slice P.A P.sub.length P.c] 26)))
          have HY0 := Lib.hid (btO HW.out (belO wr (.cells #[.int .u8 P.k, .string P.r, .string P.n, .int .i64 P.d, .slice P.A P.sub.length P.c] 26)))
          go_wp2_with (first
            | (go_at_call 38; have _t := HX2; ((with_reducible refine (HdP.out (by first | exact trivial | rfl) _ HX2.out).mono ?_); rintro u w13 ⟨rfl, hb⟩; have HX3 := Lib.hid (btO HX2.out hb); have HY3 := Lib.hid (btO HY2.out hb); have HV3 := Lib.hid (HV2.out.below hb); have z30 := HV3.out.c0; have z31 := HV3.out.c1; have z32 := HV3.out.c2; have z33 := HV3.out.c3; have z34 := HV3.out.c4; clear hb))
            | (go_at_call 37; have _t := HX1; ((with_reducible refine (HsP.out (by first | exact trivial | rfl) _ HX1.out).mono ?_); rintro u w12 ⟨rfl, hb⟩; have HX2 := Lib.hid (btO HX1.out hb); have HY2 := Lib.hid (btO HY1.out hb); have HV2 := Lib.hid (HV1.out.below hb); have z20 := HV2.out.c0; have z21 := HV2.out.c1; have z22 := HV2.out.c2; have z23 := HV2.out.c3; have z24 := HV2.out.c4; clear hb))
            | (go_at_call 34; have _t := HX0; ((with_reducible refine (HgP.out _ HX0.out).mono ?_); rintro u w11 ⟨rfl, hb⟩; have HX1 := Lib.hid (btO HX0.out hb); have HY1 := Lib.hid (btO HY0.out hb); have HV1 := Lib.hid (HV0.out.below hb); have z10 := HV1.out.c0; have z11 := HV1.out.c1; have z12 := HV1.out.c2; have z13 := HV1.out.c3; have z14 := HV1.out.c4; clear hb)))
          go_ret
          exact ⟨rfl, btO HB.out (by first | exact HX3.out | exact HX2.out | exact HX1.out)⟩)
  · skip
    go_enter Tryz.func7, Tryz.ntmps7
    go_wp2_with (first | (go_at_call 23; have _t := HW1; ((with_reducible refine (Hal.out _ HW1.out).mono ?_); rintro u w2 ⟨rfl, hb⟩; clear a0 a1 a2 a3 a4 b0 b1 b2 b3 b4 x0 x1 x2 x3 x4 y0 y1 y2 y3 y4 v0 v1; have HW2 := Lib.hid (btO HW1.out hb); obtain ⟨a0, a1, a2, a3, a4, b0, b1, b2, b3, b4, x0, x1, x2, x3, x4, y0, y1, y2, y3, y4, v0, v1⟩ := HG.out _ HW2.out; clear hb)))
    have HR := Lib.hid (heap_alloc_new w2 (.cells #[.int .u8 P.k, .string P.r, .string P.n, .int .i64 P.d, .slice P.A P.sub.length P.c, .int .u8 R.k, .string R.r, .string R.n, .int .i64 R.d, .slice R.A R.sub.length R.c, .int .u8 X.k, .string X.r, .string X.n, .int .i64 X.d, .slice X.A X.sub.length X.c, .int .u8 Y.k, .string Y.r, .string Y.n, .int .i64 Y.d, .slice Y.A Y.sub.length Y.c] 26))
    have HW3 := Lib.hid (btO HW2.out (belo3 w2 P R X Y))
    clear a0 a1 a2 a3 a4 b0 b1 b2 b3 b4 x0 x1 x2 x3 x4 y0 y1 y2 y3 y4 v0 v1 hw1
    generalize w2.alloc (.cells #[.int .u8 P.k, .string P.r, .string P.n, .int .i64 P.d, .slice P.A P.sub.length P.c, .int .u8 R.k, .string R.r, .string R.n, .int .i64 R.d, .slice R.A R.sub.length R.c, .int .u8 X.k, .string X.r, .string X.n, .int .i64 X.d, .slice X.A X.sub.length X.c, .int .u8 Y.k, .string Y.r, .string Y.n, .int .i64 Y.d, .slice Y.A Y.sub.length Y.c] 26) = w3 at *
    go_loopw [38] (fun i wr => ∃ (k : Nat), k ≤ 1 ∧ i = .int .i64 k ∧ Hid (Below w3.heap.size w3 wr)) (fun i _ => 4 - (intOf i).toNat)
    case atStart => exact ⟨0, by omega, rfl, Below.refl _ _⟩
    case round =>
      obtain ⟨k, hk, rfl, HW⟩ := hrel
      have hk : k = 0 ∨ k = 1 := by omega
      rcases hk with rfl | rfl
      · skip
        have t0 := cellO HW.out (row_cell (j := 0) HR.out rfl)
        have t1 := cellO HW.out (row_cell (j := 1) HR.out rfl)
        have t2 := cellO HW.out (row_cell (j := 2) HR.out rfl)
        have t3 := cellO HW.out (row_cell (j := 3) HR.out rfl)
        have t4 := cellO HW.out (row_cell (j := 4) HR.out rfl)
        have HX := Lib.hid (btO HW3.out HW.out)
        have HV0 : Hid (Ex.Box (wr.alloc (.cells #[.int .u8 P.k, .string P.r, .string P.n, .int .i64 P.d, .slice P.A P.sub.length P.c] 26)) wr.heap.size P) := Ex.Box.new wr P 26
        have HX0 := Lib.hid (btO HX.out (belO wr (.cells #[.int .u8 P.k, .string P.r, .string P.n, .int .i64 P.d, .slice P.A P.sub.length P.c] 26)))
        have HY0 := Lib.hid (btO HW.out (belO wr (.cells #[.int .u8 P.k, .string P.r, .string P.n, .int .i64 P.d, .slice P.A P.sub.length P.c] 26)))
        go_wp2_with (first
          | (go_at_call 38; have _t := HX2; ((with_reducible refine (HdP.out (by first | exact trivial | rfl) _ HX2.out).mono ?_); rintro u w13 ⟨rfl, hb⟩; have HX3 := Lib.hid (btO HX2.out hb); have HY3 := Lib.hid (btO HY2.out hb); have HV3 := Lib.hid (HV2.out.below hb); have z30 := HV3.out.c0; have z31 := HV3.out.c1; have z32 := HV3.out.c2; have z33 := HV3.out.c3; have z34 := HV3.out.c4; clear hb))
          | (go_at_call 37; have _t := HX1; ((with_reducible refine (HsP.out (by first | exact trivial | rfl) _ HX1.out).mono ?_); rintro u w12 ⟨rfl, hb⟩; have HX2 := Lib.hid (btO HX1.out hb); have HY2 := Lib.hid (btO HY1.out hb); have HV2 := Lib.hid (HV1.out.below hb); have z20 := HV2.out.c0; have z21 := HV2.out.c1; have z22 := HV2.out.c2; have z23 := HV2.out.c3; have z24 := HV2.out.c4; clear hb))
          | (go_at_call 34; have _t := HX0; ((with_reducible refine (HgP.out _ HX0.out).mono ?_); rintro u w11 ⟨rfl, hb⟩; have HX1 := Lib.hid (btO HX0.out hb); have HY1 := Lib.hid (btO HY0.out hb); have HV1 := Lib.hid (HV0.out.below hb); have z10 := HV1.out.c0; have z11 := HV1.out.c1; have z12 := HV1.out.c2; have z13 := HV1.out.c3; have z14 := HV1.out.c4; clear hb)))
        go_roundw
        all_goals first
          | exact ⟨1, by omega, rfl, HY3⟩
          | (simp [intOf]; done)
      · rcases hf with rfl | ⟨rfl, hf⟩ | ⟨rfl, hf, hf2⟩
        all_goals (
          have t0 := cellO HW.out (row_cell (j := 5) HR.out rfl)
          have t1 := cellO HW.out (row_cell (j := 6) HR.out rfl)
          have t2 := cellO HW.out (row_cell (j := 7) HR.out rfl)
          have t3 := cellO HW.out (row_cell (j := 8) HR.out rfl)
          have t4 := cellO HW.out (row_cell (j := 9) HR.out rfl)
          have HX := Lib.hid (btO HW3.out HW.out)
          have HV0 : Hid (Ex.Box (wr.alloc (.cells #[.int .u8 R.k, .string R.r, .string R.n, .int .i64 R.d, .slice R.A R.sub.length R.c] 26)) wr.heap.size R) := Ex.Box.new wr R 26
          have HX0 := Lib.hid (btO HX.out (belO wr (.cells #[.int .u8 R.k, .string R.r, .string R.n, .int .i64 R.d, .slice R.A R.sub.length R.c] 26)))
          have HY0 := Lib.hid (btO HW.out (belO wr (.cells #[.int .u8 R.k, .string R.r, .string R.n, .int .i64 R.d, .slice R.A R.sub.length R.c] 26)))
          go_wp2_with (first
            | (go_at_call 38; have _t := HX2; ((with_reducible refine (HdR.out (by first | exact trivial | rfl) _ HX2.out).mono ?_); rintro u w13 ⟨rfl, hb⟩; have HX3 := Lib.hid (btO HX2.out hb); have HY3 := Lib.hid (btO HY2.out hb); have HV3 := Lib.hid (HV2.out.below hb); have z30 := HV3.out.c0; have z31 := HV3.out.c1; have z32 := HV3.out.c2; have z33 := HV3.out.c3; have z34 := HV3.out.c4; clear hb))
            | (go_at_call 37; have _t := HX1; ((with_reducible refine (HsR.out (by first | exact trivial | rfl) _ HX1.out).mono ?_); rintro u w12 ⟨rfl, hb⟩; have HX2 := Lib.hid (btO HX1.out hb); have HY2 := Lib.hid (btO HY1.out hb); have HV2 := Lib.hid (HV1.out.below hb); have z20 := HV2.out.c0; have z21 := HV2.out.c1; have z22 := HV2.out.c2; have z23 := HV2.out.c3; have z24 := HV2.out.c4; clear hb))
            | (go_at_call 34; have _t := HX0; ((with_reducible refine (HgR.out _ HX0.out).mono ?_); rintro u w11 ⟨rfl, hb⟩; have HX1 := Lib.hid (btO HX0.out hb); have HY1 := Lib.hid (btO HY0.out hb); have HV1 := Lib.hid (HV0.out.below hb); have z10 := HV1.out.c0; have z11 := HV1.out.c1; have z12 := HV1.out.c2; have z13 := HV1.out.c3; have z14 := HV1.out.c4; clear hb)))
          go_ret
          exact ⟨rfl, btO HB.out (by first | exact HX3.out | exact HX2.out | exact HX1.out)⟩)
  · skip
    go_enter Tryz.func7, Tryz.ntmps7
    go_wp2_with (first | (go_at_call 23; have _t := HW1; ((with_reducible refine (Hal.out _ HW1.out).mono ?_); rintro u w2 ⟨rfl, hb⟩; clear a0 a1 a2 a3 a4 b0 b1 b2 b3 b4 x0 x1 x2 x3 x4 y0 y1 y2 y3 y4 v0 v1; have HW2 := Lib.hid (btO HW1.out hb); obtain ⟨a0, a1, a2, a3, a4, b0, b1, b2, b3, b4, x0, x1, x2, x3, x4, y0, y1, y2, y3, y4, v0, v1⟩ := HG.out _ HW2.out; clear hb)))
    have HR := Lib.hid (heap_alloc_new w2 (.cells #[.int .u8 P.k, .string P.r, .string P.n, .int .i64 P.d, .slice P.A P.sub.length P.c, .int .u8 R.k, .string R.r, .string R.n, .int .i64 R.d, .slice R.A R.sub.length R.c, .int .u8 X.k, .string X.r, .string X.n, .int .i64 X.d, .slice X.A X.sub.length X.c, .int .u8 Y.k, .string Y.r, .string Y.n, .int .i64 Y.d, .slice Y.A Y.sub.length Y.c] 26))
    have HW3 := Lib.hid (btO HW2.out (belo3 w2 P R X Y))
    clear a0 a1 a2 a3 a4 b0 b1 b2 b3 b4 x0 x1 x2 x3 x4 y0 y1 y2 y3 y4 v0 v1 hw1
    generalize w2.alloc (.cells #[.int .u8 P.k, .string P.r, .string P.n, .int .i64 P.d, .slice P.A P.sub.length P.c, .int .u8 R.k, .string R.r, .string R.n, .int .i64 R.d, .slice R.A R.sub.length R.c, .int .u8 X.k, .string X.r, .string X.n, .int .i64 X.d, .slice X.A X.sub.length X.c, .int .u8 Y.k, .string Y.r, .string Y.n, .int .i64 Y.d, .slice Y.A Y.sub.length Y.c] 26) = w3 at *
    go_loopw [38] (fun i wr => ∃ (k : Nat), k ≤ 2 ∧ i = .int .i64 k ∧ Hid (Below w3.heap.size w3 wr)) (fun i _ => 4 - (intOf i).toNat)
    case atStart => exact ⟨0, by omega, rfl, Below.refl _ _⟩
    case round =>
      obtain ⟨k, hk, rfl, HW⟩ := hrel
      have hk : k = 0 ∨ k = 1 ∨ k = 2 := by omega
      rcases hk with rfl | rfl | rfl
      · skip
        have t0 := cellO HW.out (row_cell (j := 0) HR.out rfl)
        have t1 := cellO HW.out (row_cell (j := 1) HR.out rfl)
        have t2 := cellO HW.out (row_cell (j := 2) HR.out rfl)
        have t3 := cellO HW.out (row_cell (j := 3) HR.out rfl)
        have t4 := cellO HW.out (row_cell (j := 4) HR.out rfl)
        have HX := Lib.hid (btO HW3.out HW.out)
        have HV0 : Hid (Ex.Box (wr.alloc (.cells #[.int .u8 P.k, .string P.r, .string P.n, .int .i64 P.d, .slice P.A P.sub.length P.c] 26)) wr.heap.size P) := Ex.Box.new wr P 26
        have HX0 := Lib.hid (btO HX.out (belO wr (.cells #[.int .u8 P.k, .string P.r, .string P.n, .int .i64 P.d, .slice P.A P.sub.length P.c] 26)))
        have HY0 := Lib.hid (btO HW.out (belO wr (.cells #[.int .u8 P.k, .string P.r, .string P.n, .int .i64 P.d, .slice P.A P.sub.length P.c] 26)))
        go_wp2_with (first
          | (go_at_call 38; have _t := HX2; ((with_reducible refine (HdP.out (by first | exact trivial | rfl) _ HX2.out).mono ?_); rintro u w13 ⟨rfl, hb⟩; have HX3 := Lib.hid (btO HX2.out hb); have HY3 := Lib.hid (btO HY2.out hb); have HV3 := Lib.hid (HV2.out.below hb); have z30 := HV3.out.c0; have z31 := HV3.out.c1; have z32 := HV3.out.c2; have z33 := HV3.out.c3; have z34 := HV3.out.c4; clear hb))
          | (go_at_call 37; have _t := HX1; ((with_reducible refine (HsP.out (by first | exact trivial | rfl) _ HX1.out).mono ?_); rintro u w12 ⟨rfl, hb⟩; have HX2 := Lib.hid (btO HX1.out hb); have HY2 := Lib.hid (btO HY1.out hb); have HV2 := Lib.hid (HV1.out.below hb); have z20 := HV2.out.c0; have z21 := HV2.out.c1; have z22 := HV2.out.c2; have z23 := HV2.out.c3; have z24 := HV2.out.c4; clear hb))
          | (go_at_call 34; have _t := HX0; ((with_reducible refine (HgP.out _ HX0.out).mono ?_); rintro u w11 ⟨rfl, hb⟩; have HX1 := Lib.hid (btO HX0.out hb); have HY1 := Lib.hid (btO HY0.out hb); have HV1 := Lib.hid (HV0.out.below hb); have z10 := HV1.out.c0; have z11 := HV1.out.c1; have z12 := HV1.out.c2; have z13 := HV1.out.c3; have z14 := HV1.out.c4; clear hb)))
        go_roundw
        all_goals first
          | exact ⟨1, by omega, rfl, HY3⟩
          | (simp [intOf]; done)
      · skip
        have t0 := cellO HW.out (row_cell (j := 5) HR.out rfl)
        have t1 := cellO HW.out (row_cell (j := 6) HR.out rfl)
        have t2 := cellO HW.out (row_cell (j := 7) HR.out rfl)
        have t3 := cellO HW.out (row_cell (j := 8) HR.out rfl)
        have t4 := cellO HW.out (row_cell (j := 9) HR.out rfl)
        have HX := Lib.hid (btO HW3.out HW.out)
        have HV0 : Hid (Ex.Box (wr.alloc (.cells #[.int .u8 R.k, .string R.r, .string R.n, .int .i64 R.d, .slice R.A R.sub.length R.c] 26)) wr.heap.size R) := Ex.Box.new wr R 26
        have HX0 := Lib.hid (btO HX.out (belO wr (.cells #[.int .u8 R.k, .string R.r, .string R.n, .int .i64 R.d, .slice R.A R.sub.length R.c] 26)))
        have HY0 := Lib.hid (btO HW.out (belO wr (.cells #[.int .u8 R.k, .string R.r, .string R.n, .int .i64 R.d, .slice R.A R.sub.length R.c] 26)))
        go_wp2_with (first
          | (go_at_call 38; have _t := HX2; ((with_reducible refine (HdR.out (by first | exact trivial | rfl) _ HX2.out).mono ?_); rintro u w13 ⟨rfl, hb⟩; have HX3 := Lib.hid (btO HX2.out hb); have HY3 := Lib.hid (btO HY2.out hb); have HV3 := Lib.hid (HV2.out.below hb); have z30 := HV3.out.c0; have z31 := HV3.out.c1; have z32 := HV3.out.c2; have z33 := HV3.out.c3; have z34 := HV3.out.c4; clear hb))
          | (go_at_call 37; have _t := HX1; ((with_reducible refine (HsR.out (by first | exact trivial | rfl) _ HX1.out).mono ?_); rintro u w12 ⟨rfl, hb⟩; have HX2 := Lib.hid (btO HX1.out hb); have HY2 := Lib.hid (btO HY1.out hb); have HV2 := Lib.hid (HV1.out.below hb); have z20 := HV2.out.c0; have z21 := HV2.out.c1; have z22 := HV2.out.c2; have z23 := HV2.out.c3; have z24 := HV2.out.c4; clear hb))
          | (go_at_call 34; have _t := HX0; ((with_reducible refine (HgR.out _ HX0.out).mono ?_); rintro u w11 ⟨rfl, hb⟩; have HX1 := Lib.hid (btO HX0.out hb); have HY1 := Lib.hid (btO HY0.out hb); have HV1 := Lib.hid (HV0.out.below hb); have z10 := HV1.out.c0; have z11 := HV1.out.c1; have z12 := HV1.out.c2; have z13 := HV1.out.c3; have z14 := HV1.out.c4; clear hb)))
        go_roundw
        all_goals first
          | exact ⟨2, by omega, rfl, HY3⟩
          | (simp [intOf]; done)
      · rcases hf with rfl | ⟨rfl, hf⟩ | ⟨rfl, hf, hf2⟩
        all_goals (
          have t0 := cellO HW.out (row_cell (j := 10) HR.out rfl)
          have t1 := cellO HW.out (row_cell (j := 11) HR.out rfl)
          have t2 := cellO HW.out (row_cell (j := 12) HR.out rfl)
          have t3 := cellO HW.out (row_cell (j := 13) HR.out rfl)
          have t4 := cellO HW.out (row_cell (j := 14) HR.out rfl)
          have HX := Lib.hid (btO HW3.out HW.out)
          have HV0 : Hid (Ex.Box (wr.alloc (.cells #[.int .u8 X.k, .string X.r, .string X.n, .int .i64 X.d, .slice X.A X.sub.length X.c] 26)) wr.heap.size X) := Ex.Box.new wr X 26
          have HX0 := Lib.hid (btO HX.out (belO wr (.cells #[.int .u8 X.k, .string X.r, .string X.n, .int .i64 X.d, .slice X.A X.sub.length X.c] 26)))
          have HY0 := Lib.hid (btO HW.out (belO wr (.cells #[.int .u8 X.k, .string X.r, .string X.n, .int .i64 X.d, .slice X.A X.sub.length X.c] 26)))
          go_wp2_with (first
            | (go_at_call 38; have _t := HX2; ((with_reducible refine (HdX.out (by first | exact trivial | rfl) _ HX2.out).mono ?_); rintro u w13 ⟨rfl, hb⟩; have HX3 := Lib.hid (btO HX2.out hb); have HY3 := Lib.hid (btO HY2.out hb); have HV3 := Lib.hid (HV2.out.below hb); have z30 := HV3.out.c0; have z31 := HV3.out.c1; have z32 := HV3.out.c2; have z33 := HV3.out.c3; have z34 := HV3.out.c4; clear hb))
            | (go_at_call 37; have _t := HX1; ((with_reducible refine (HsX.out (by first | exact trivial | rfl) _ HX1.out).mono ?_); rintro u w12 ⟨rfl, hb⟩; have HX2 := Lib.hid (btO HX1.out hb); have HY2 := Lib.hid (btO HY1.out hb); have HV2 := Lib.hid (HV1.out.below hb); have z20 := HV2.out.c0; have z21 := HV2.out.c1; have z22 := HV2.out.c2; have z23 := HV2.out.c3; have z24 := HV2.out.c4; clear hb))
            | (go_at_call 34; have _t := HX0; ((with_reducible refine (HgX.out _ HX0.out).mono ?_); rintro u w11 ⟨rfl, hb⟩; have HX1 := Lib.hid (btO HX0.out hb); have HY1 := Lib.hid (btO HY0.out hb); have HV1 := Lib.hid (HV0.out.below hb); have z10 := HV1.out.c0; have z11 := HV1.out.c1; have z12 := HV1.out.c2; have z13 := HV1.out.c3; have z14 := HV1.out.c4; clear hb)))
          go_ret
          exact ⟨rfl, btO HB.out (by first | exact HX3.out | exact HX2.out | exact HX1.out)⟩)
  · skip
    go_enter Tryz.func7, Tryz.ntmps7
    go_wp2_with (first | (go_at_call 23; have _t := HW1; ((with_reducible refine (Hal.out _ HW1.out).mono ?_); rintro u w2 ⟨rfl, hb⟩; clear a0 a1 a2 a3 a4 b0 b1 b2 b3 b4 x0 x1 x2 x3 x4 y0 y1 y2 y3 y4 v0 v1; have HW2 := Lib.hid (btO HW1.out hb); obtain ⟨a0, a1, a2, a3, a4, b0, b1, b2, b3, b4, x0, x1, x2, x3, x4, y0, y1, y2, y3, y4, v0, v1⟩ := HG.out _ HW2.out; clear hb)))
    have HR := Lib.hid (heap_alloc_new w2 (.cells #[.int .u8 P.k, .string P.r, .string P.n, .int .i64 P.d, .slice P.A P.sub.length P.c, .int .u8 R.k, .string R.r, .string R.n, .int .i64 R.d, .slice R.A R.sub.length R.c, .int .u8 X.k, .string X.r, .string X.n, .int .i64 X.d, .slice X.A X.sub.length X.c, .int .u8 Y.k, .string Y.r, .string Y.n, .int .i64 Y.d, .slice Y.A Y.sub.length Y.c] 26))
    have HW3 := Lib.hid (btO HW2.out (belo3 w2 P R X Y))
    clear a0 a1 a2 a3 a4 b0 b1 b2 b3 b4 x0 x1 x2 x3 x4 y0 y1 y2 y3 y4 v0 v1 hw1
    generalize w2.alloc (.cells #[.int .u8 P.k, .string P.r, .string P.n, .int .i64 P.d, .slice P.A P.sub.length P.c, .int .u8 R.k, .string R.r, .string R.n, .int .i64 R.d, .slice R.A R.sub.length R.c, .int .u8 X.k, .string X.r, .string X.n, .int .i64 X.d, .slice X.A X.sub.length X.c, .int .u8 Y.k, .string Y.r, .string Y.n, .int .i64 Y.d, .slice Y.A Y.sub.length Y.c] 26) = w3 at *
    go_loopw [38] (fun i wr => ∃ (k : Nat), k ≤ 3 ∧ i = .int .i64 k ∧ Hid (Below w3.heap.size w3 wr)) (fun i _ => 4 - (intOf i).toNat)
    case atStart => exact ⟨0, by omega, rfl, Below.refl _ _⟩
    case round =>
      obtain ⟨k, hk, rfl, HW⟩ := hrel
      have hk : k = 0 ∨ k = 1 ∨ k = 2 ∨ k = 3 := by omega
      rcases hk with rfl | rfl | rfl | rfl
      · skip
        have t0 := cellO HW.out (row_cell (j := 0) HR.out rfl)
        have t1 := cellO HW.out (row_cell (j := 1) HR.out rfl)
        have t2 := cellO HW.out (row_cell (j := 2) HR.out rfl)
        have t3 := cellO HW.out (row_cell (j := 3) HR.out rfl)
        have t4 := cellO HW.out (row_cell (j := 4) HR.out rfl)
        have HX := Lib.hid (btO HW3.out HW.out)
        have HV0 : Hid (Ex.Box (wr.alloc (.cells #[.int .u8 P.k, .string P.r, .string P.n, .int .i64 P.d, .slice P.A P.sub.length P.c] 26)) wr.heap.size P) := Ex.Box.new wr P 26
        have HX0 := Lib.hid (btO HX.out (belO wr (.cells #[.int .u8 P.k, .string P.r, .string P.n, .int .i64 P.d, .slice P.A P.sub.length P.c] 26)))
        have HY0 := Lib.hid (btO HW.out (belO wr (.cells #[.int .u8 P.k, .string P.r, .string P.n, .int .i64 P.d, .slice P.A P.sub.length P.c] 26)))
        go_wp2_with (first
          | (go_at_call 38; have _t := HX2; ((with_reducible refine (HdP.out (by first | exact trivial | rfl) _ HX2.out).mono ?_); rintro u w13 ⟨rfl, hb⟩; have HX3 := Lib.hid (btO HX2.out hb); have HY3 := Lib.hid (btO HY2.out hb); have HV3 := Lib.hid (HV2.out.below hb); have z30 := HV3.out.c0; have z31 := HV3.out.c1; have z32 := HV3.out.c2; have z33 := HV3.out.c3; have z34 := HV3.out.c4; clear hb))
          | (go_at_call 37; have _t := HX1; ((with_reducible refine (HsP.out (by first | exact trivial | rfl) _ HX1.out).mono ?_); rintro u w12 ⟨rfl, hb⟩; have HX2 := Lib.hid (btO HX1.out hb); have HY2 := Lib.hid (btO HY1.out hb); have HV2 := Lib.hid (HV1.out.below hb); have z20 := HV2.out.c0; have z21 := HV2.out.c1; have z22 := HV2.out.c2; have z23 := HV2.out.c3; have z24 := HV2.out.c4; clear hb))
          | (go_at_call 34; have _t := HX0; ((with_reducible refine (HgP.out _ HX0.out).mono ?_); rintro u w11 ⟨rfl, hb⟩; have HX1 := Lib.hid (btO HX0.out hb); have HY1 := Lib.hid (btO HY0.out hb); have HV1 := Lib.hid (HV0.out.below hb); have z10 := HV1.out.c0; have z11 := HV1.out.c1; have z12 := HV1.out.c2; have z13 := HV1.out.c3; have z14 := HV1.out.c4; clear hb)))
        go_roundw
        all_goals first
          | exact ⟨1, by omega, rfl, HY3⟩
          | (simp [intOf]; done)
      · skip
        have t0 := cellO HW.out (row_cell (j := 5) HR.out rfl)
        have t1 := cellO HW.out (row_cell (j := 6) HR.out rfl)
        have t2 := cellO HW.out (row_cell (j := 7) HR.out rfl)
        have t3 := cellO HW.out (row_cell (j := 8) HR.out rfl)
        have t4 := cellO HW.out (row_cell (j := 9) HR.out rfl)
        have HX := Lib.hid (btO HW3.out HW.out)
        have HV0 : Hid (Ex.Box (wr.alloc (.cells #[.int .u8 R.k, .string R.r, .string R.n, .int .i64 R.d, .slice R.A R.sub.length R.c] 26)) wr.heap.size R) := Ex.Box.new wr R 26
        have HX0 := Lib.hid (btO HX.out (belO wr (.cells #[.int .u8 R.k, .string R.r, .string R.n, .int .i64 R.d, .slice R.A R.sub.length R.c] 26)))
        have HY0 := Lib.hid (btO HW.out (belO wr (.cells #[.int .u8 R.k, .string R.r, .string R.n, .int .i64 R.d, .slice R.A R.sub.length R.c] 26)))
        go_wp2_with (first
          | (go_at_call 38; have _t := HX2; ((with_reducible refine (HdR.out (by first | exact trivial | rfl) _ HX2.out).mono ?_); rintro u w13 ⟨rfl, hb⟩; have HX3 := Lib.hid (btO HX2.out hb); have HY3 := Lib.hid (btO HY2.out hb); have HV3 := Lib.hid (HV2.out.below hb); have z30 := HV3.out.c0; have z31 := HV3.out.c1; have z32 := HV3.out.c2; have z33 := HV3.out.c3; have z34 := HV3.out.c4; clear hb))
          | (go_at_call 37; have _t := HX1; ((with_reducible refine (HsR.out (by first | exact trivial | rfl) _ HX1.out).mono ?_); rintro u w12 ⟨rfl, hb⟩; have HX2 := Lib.hid (btO HX1.out hb); have HY2 := Lib.hid (btO HY1.out hb); have HV2 := Lib.hid (HV1.out.below hb); have z20 := HV2.out.c0; have z21 := HV2.out.c1; have z22 := HV2.out.c2; have z23 := HV2.out.c3; have z24 := HV2.out.c4; clear hb))
          | (go_at_call 34; have _t := HX0; ((with_reducible refine (HgR.out _ HX0.out).mono ?_); rintro u w11 ⟨rfl, hb⟩; have HX1 := Lib.hid (btO HX0.out hb); have HY1 := Lib.hid (btO HY0.out hb); have HV1 := Lib.hid (HV0.out.below hb); have z10 := HV1.out.c0; have z11 := HV1.out.c1; have z12 := HV1.out.c2; have z13 := HV1.out.c3; have z14 := HV1.out.c4; clear hb)))
        go_roundw
        all_goals first
          | exact ⟨2, by omega, rfl, HY3⟩
          | (simp [intOf]; done)
      · skip
        have t0 := cellO HW.out (row_cell (j := 10) HR.out rfl)
        have t1 := cellO HW.out (row_cell (j := 11) HR.out rfl)
        have t2 := cellO HW.out (row_cell (j := 12) HR.out rfl)
        have t3 := cellO HW.out (row_cell (j := 13) HR.out rfl)
        have t4 := cellO HW.out (row_cell (j := 14) HR.out rfl)
        have HX := Lib.hid (btO HW3.out HW.out)
        have HV0 : Hid (Ex.Box (wr.alloc (.cells #[.int .u8 X.k, .string X.r, .string X.n, .int .i64 X.d, .slice X.A X.sub.length X.c] 26)) wr.heap.size X) := Ex.Box.new wr X 26
        have HX0 := Lib.hid (btO HX.out (belO wr (.cells #[.int .u8 X.k, .string X.r, .string X.n, .int .i64 X.d, .slice X.A X.sub.length X.c] 26)))
        have HY0 := Lib.hid (btO HW.out (belO wr (.cells #[.int .u8 X.k, .string X.r, .string X.n, .int .i64 X.d, .slice X.A X.sub.length X.c] 26)))
        go_wp2_with (first
          | (go_at_call 38; have _t := HX2; ((with_reducible refine (HdX.out (by first | exact trivial | rfl) _ HX2.out).mono ?_); rintro u w13 ⟨rfl, hb⟩; have HX3 := Lib.hid (btO HX2.out hb); have HY3 := Lib.hid (btO HY2.out hb); have HV3 := Lib.hid (HV2.out.below hb); have z30 := HV3.out.c0; have z31 := HV3.out.c1; have z32 := HV3.out.c2; have z33 := HV3.out.c3; have z34 := HV3.out.c4; clear hb))
          | (go_at_call 37; have _t := HX1; ((with_reducible refine (HsX.out (by first | exact trivial | rfl) _ HX1.out).mono ?_); rintro u w12 ⟨rfl, hb⟩; have HX2 := Lib.hid (btO HX1.out hb); have HY2 := Lib.hid (btO HY1.out hb); have HV2 := Lib.hid (HV1.out.below hb); have z20 := HV2.out.c0; have z21 := HV2.out.c1; have z22 := HV2.out.c2; have z23 := HV2.out.c3; have z24 := HV2.out.c4; clear hb))
          | (go_at_call 34; have _t := HX0; ((with_reducible refine (HgX.out _ HX0.out).mono ?_); rintro u w11 ⟨rfl, hb⟩; have HX1 := Lib.hid (btO HX0.out hb); have HY1 := Lib.hid (btO HY0.out hb); have HV1 := Lib.hid (HV0.out.below hb); have z10 := HV1.out.c0; have z11 := HV1.out.c1; have z12 := HV1.out.c2; have z13 := HV1.out.c3; have z14 := HV1.out.c4; clear hb)))
        go_roundw
        all_goals first
          | exact ⟨3, by omega, rfl, HY3⟩
          | (simp [intOf]; done)
      · rcases hf with rfl | ⟨rfl, hf⟩ | ⟨rfl, hf, hf2⟩
        all_goals (
          have t0 := cellO HW.out (row_cell (j := 15) HR.out rfl)
          have t1 := cellO HW.out (row_cell (j := 16) HR.out rfl)
          have t2 := cellO HW.out (row_cell (j := 17) HR.out rfl)
          have t3 := cellO HW.out (row_cell (j := 18) HR.out rfl)
          have t4 := cellO HW.out (row_cell (j := 19) HR.out rfl)
          have HX := Lib.hid (btO HW3.out HW.out)
          have HV0 : Hid (Ex.Box (wr.alloc (.cells #[.int .u8 Y.k, .string Y.r, .string Y.n, .int .i64 Y.d, .slice Y.A Y.sub.length Y.c] 26)) wr.heap.size Y) := Ex.Box.new wr Y 26
          have HX0 := Lib.hid (btO HX.out (belO wr (.cells #[.int .u8 Y.k, .string Y.r, .string Y.n, .int .i64 Y.d, .slice Y.A Y.sub.length Y.c] 26)))
          have HY0 := Lib.hid (btO HW.out (belO wr (.cells #[.int .u8 Y.k, .string Y.r, .string Y.n, .int .i64 Y.d, .slice Y.A Y.sub.length Y.c] 26)))
          go_wp2_with (first
            | (go_at_call 38; have _t := HX2; ((with_reducible refine (HdY.out (by first | exact trivial | rfl) _ HX2.out).mono ?_); rintro u w13 ⟨rfl, hb⟩; have HX3 := Lib.hid (btO HX2.out hb); have HY3 := Lib.hid (btO HY2.out hb); have HV3 := Lib.hid (HV2.out.below hb); have z30 := HV3.out.c0; have z31 := HV3.out.c1; have z32 := HV3.out.c2; have z33 := HV3.out.c3; have z34 := HV3.out.c4; clear hb))
            | (go_at_call 37; have _t := HX1; ((with_reducible refine (HsY.out (by first | exact trivial | rfl) _ HX1.out).mono ?_); rintro u w12 ⟨rfl, hb⟩; have HX2 := Lib.hid (btO HX1.out hb); have HY2 := Lib.hid (btO HY1.out hb); have HV2 := Lib.hid (HV1.out.below hb); have z20 := HV2.out.c0; have z21 := HV2.out.c1; have z22 := HV2.out.c2; have z23 := HV2.out.c3; have z24 := HV2.out.c4; clear hb))
            | (go_at_call 34; have _t := HX0; ((with_reducible refine (HgY.out _ HX0.out).mono ?_); rintro u w11 ⟨rfl, hb⟩; have HX1 := Lib.hid (btO HX0.out hb); have HY1 := Lib.hid (btO HY0.out hb); have HV1 := Lib.hid (HV0.out.below hb); have z10 := HV1.out.c0; have z11 := HV1.out.c1; have z12 := HV1.out.c2; have z13 := HV1.out.c3; have z14 := HV1.out.c4; clear hb)))
          go_ret
          exact ⟨rfl, btO HB.out (by first | exact HX3.out | exact HX2.out | exact HX1.out)⟩)
end Go.Proofs.YtnomccgdajcfiaaGreatDoor
/- The law ObservableLogic: the ways out behind the loop. -/
namespace Go.Proofs.YtnomccgdajcfiaaGreatDoor
open Go Go.RowKit Go.BigFrame
set_option maxRecDepth 100000 in
set_option maxHeartbeats 25600000 in
theorem logic_env (P R X Y : Ex) (E : Ev) (day : Int) (sP dP sR dR sX dX sY dY : Int) (bv tP tR nX nY : Bool) (w : World)
    (hal : ∀ W, Below w.heap.size w W → Calls Tryz.prog 23 #[] W (BoolRO true W))
    (hgP : ∀ W, Below w.heap.size w W → Calls Tryz.prog 34 #[.agg #[.int .u8 P.k, .string P.r, .string P.n, .int .i64 P.d, .slice P.A P.sub.length P.c]] W (BoolRO false W))
    (hsP : ∀ W, Below w.heap.size w W → Calls Tryz.prog 37 #[.agg #[.int .u8 P.k, .string P.r, .string P.n, .int .i64 P.d, .slice P.A P.sub.length P.c]] W (IntRO sP W))
    (hdP : ∀ W, Below w.heap.size w W → Calls Tryz.prog 38 #[.agg #[.int .u8 P.k, .string P.r, .string P.n, .int .i64 P.d, .slice P.A P.sub.length P.c]] W (IntRO dP W))
    (hgR : ∀ W, Below w.heap.size w W → Calls Tryz.prog 34 #[.agg #[.int .u8 R.k, .string R.r, .string R.n, .int .i64 R.d, .slice R.A R.sub.length R.c]] W (BoolRO false W))
    (hsR : ∀ W, Below w.heap.size w W → Calls Tryz.prog 37 #[.agg #[.int .u8 R.k, .string R.r, .string R.n, .int .i64 R.d, .slice R.A R.sub.length R.c]] W (IntRO sR W))
    (hdR : ∀ W, Below w.heap.size w W → Calls Tryz.prog 38 #[.agg #[.int .u8 R.k, .string R.r, .string R.n, .int .i64 R.d, .slice R.A R.sub.length R.c]] W (IntRO dR W))
    (hgX : ∀ W, Below w.heap.size w W → Calls Tryz.prog 34 #[.agg #[.int .u8 X.k, .string X.r, .string X.n, .int .i64 X.d, .slice X.A X.sub.length X.c]] W (BoolRO false W))
    (hsX : ∀ W, Below w.heap.size w W → Calls Tryz.prog 37 #[.agg #[.int .u8 X.k, .string X.r, .string X.n, .int .i64 X.d, .slice X.A X.sub.length X.c]] W (IntRO sX W))
    (hdX : ∀ W, Below w.heap.size w W → Calls Tryz.prog 38 #[.agg #[.int .u8 X.k, .string X.r, .string X.n, .int .i64 X.d, .slice X.A X.sub.length X.c]] W (IntRO dX W))
    (hgY : ∀ W, Below w.heap.size w W → Calls Tryz.prog 34 #[.agg #[.int .u8 Y.k, .string Y.r, .string Y.n, .int .i64 Y.d, .slice Y.A Y.sub.length Y.c]] W (BoolRO false W))
    (hsY : ∀ W, Below w.heap.size w W → Calls Tryz.prog 37 #[.agg #[.int .u8 Y.k, .string Y.r, .string Y.n, .int .i64 Y.d, .slice Y.A Y.sub.length Y.c]] W (IntRO sY W))
    (hdY : ∀ W, Below w.heap.size w W → Calls Tryz.prog 38 #[.agg #[.int .u8 Y.k, .string Y.r, .string Y.n, .int .i64 Y.d, .slice Y.A Y.sub.length Y.c]] W (IntRO dY W))
    (hgv : ∀ W, Below w.heap.size w W → Calls Tryz.prog 24 #[.agg #[.slice E.fA E.fs.length E.fc, .slice E.cA E.cs.length E.cc]] W (BoolRO bv W))
    (htP : ∀ W, Below w.heap.size w W → Calls Tryz.prog 15 #[.agg #[.int .u8 P.k, .string P.r, .string P.n, .int .i64 P.d, .slice P.A P.sub.length P.c]] W (BoolRO tP W))
    (htR : ∀ W, Below w.heap.size w W → Calls Tryz.prog 15 #[.agg #[.int .u8 R.k, .string R.r, .string R.n, .int .i64 R.d, .slice R.A R.sub.length R.c]] W (BoolRO tR W))
    (hnX : ∀ W, Below w.heap.size w W → Calls Tryz.prog 14 #[.agg #[.int .u8 X.k, .string X.r, .string X.n, .int .i64 X.d, .slice X.A X.sub.length X.c]] W (BoolRO nX W))
    (hnY : ∀ W, Below w.heap.size w W → Calls Tryz.prog 14 #[.agg #[.int .u8 Y.k, .string Y.r, .string Y.n, .int .i64 Y.d, .slice Y.A Y.sub.length Y.c]] W (BoolRO nY W))
    (cP : ¬ 100 < sP) (eP : ¬ 59 < dP) (cR : ¬ 100 < sR) (eR : ¬ 59 < dR) (cX : ¬ 100 < sX) (eX : ¬ 59 < dX) (cY : ¬ 100 < sY) (eY : ¬ 59 < dY)
    (key : (bv = true ∧ True) ∨ (bv = false ∧ tP = false) ∨ (bv = false ∧ tP = true ∧ tR = false) ∨ (bv = false ∧ tP = true ∧ tR = true ∧ nX = false) ∨ (bv = false ∧ tP = true ∧ tR = true ∧ nX = true ∧ nY = false)) :
    Calls Tryz.prog 7 #[.agg #[.int .u8 P.k, .string P.r, .string P.n, .int .i64 P.d, .slice P.A P.sub.length P.c], .agg #[.int .u8 R.k, .string R.r, .string R.n, .int .i64 R.d, .slice R.A R.sub.length R.c], .agg #[.int .u8 X.k, .string X.r, .string X.n, .int .i64 X.d, .slice X.A X.sub.length X.c], .agg #[.int .u8 Y.k, .string Y.r, .string Y.n, .int .i64 Y.d, .slice Y.A Y.sub.length Y.c], .int .i64 day, .agg #[.slice E.fA E.fs.length E.fc, .slice E.cA E.cs.length E.cc]] w (BoolRO true w) := by
  obtain ⟨w1, hw1, hB, hS⟩ := lo_begin w P R X Y E
  have HB := Lib.hid hB
  have HG := Lib.hid (fun W (hW : Below w1.heap.size w1 W) => hS.below hW)
  have Hal := Lib.hid (fun W (hW : Below w1.heap.size w1 W) => hal W (btO hB hW))
  have HgP := Lib.hid (fun W (hW : Below w1.heap.size w1 W) => hgP W (btO hB hW))
  have HsP := Lib.hid (fun W (hW : Below w1.heap.size w1 W) => hsP W (btO hB hW))
  have HdP := Lib.hid (fun W (hW : Below w1.heap.size w1 W) => hdP W (btO hB hW))
  have HgR := Lib.hid (fun W (hW : Below w1.heap.size w1 W) => hgR W (btO hB hW))
  have HsR := Lib.hid (fun W (hW : Below w1.heap.size w1 W) => hsR W (btO hB hW))
  have HdR := Lib.hid (fun W (hW : Below w1.heap.size w1 W) => hdR W (btO hB hW))
  have HgX := Lib.hid (fun W (hW : Below w1.heap.size w1 W) => hgX W (btO hB hW))
  have HsX := Lib.hid (fun W (hW : Below w1.heap.size w1 W) => hsX W (btO hB hW))
  have HdX := Lib.hid (fun W (hW : Below w1.heap.size w1 W) => hdX W (btO hB hW))
  have HgY := Lib.hid (fun W (hW : Below w1.heap.size w1 W) => hgY W (btO hB hW))
  have HsY := Lib.hid (fun W (hW : Below w1.heap.size w1 W) => hsY W (btO hB hW))
  have HdY := Lib.hid (fun W (hW : Below w1.heap.size w1 W) => hdY W (btO hB hW))
  have Hgv := Lib.hid (fun W (hW : Below w1.heap.size w1 W) => hgv W (btO hB hW))
  have HtP := Lib.hid (fun W (hW : Below w1.heap.size w1 W) => htP W (btO hB hW))
  have HtR := Lib.hid (fun W (hW : Below w1.heap.size w1 W) => htR W (btO hB hW))
  have HnX := Lib.hid (fun W (hW : Below w1.heap.size w1 W) => hnX W (btO hB hW))
  have HnY := Lib.hid (fun W (hW : Below w1.heap.size w1 W) => hnY W (btO hB hW))
  have HW1 := Lib.hid (Below.refl w1.heap.size w1)
  clear hB hS hal hgP hsP hdP hgR hsR hdR hgX hsX hdX hgY hsY hdY hgv htP htR hnX hnY
  obtain ⟨a0, a1, a2, a3, a4, b0, b1, b2, b3, b4, x0, x1, x2, x3, x4, y0, y1, y2, y3, y4, v0, v1⟩ := HG.out _ HW1.out
  go_enter Tryz.func7, Tryz.ntmps7
  go_wp2_with (first | (go_at_call 23; have _t := HW1; ((with_reducible refine (Hal.out _ HW1.out).mono ?_); rintro u w2 ⟨rfl, hb⟩; clear a0 a1 a2 a3 a4 b0 b1 b2 b3 b4 x0 x1 x2 x3 x4 y0 y1 y2 y3 y4 v0 v1; have HW2 := Lib.hid (btO HW1.out hb); obtain ⟨a0, a1, a2, a3, a4, b0, b1, b2, b3, b4, x0, x1, x2, x3, x4, y0, y1, y2, y3, y4, v0, v1⟩ := HG.out _ HW2.out; clear hb)))
  have HR := Lib.hid (heap_alloc_new w2 (.cells #[.int .u8 P.k, .string P.r, .string P.n, .int .i64 P.d, .slice P.A P.sub.length P.c, .int .u8 R.k, .string R.r, .string R.n, .int .i64 R.d, .slice R.A R.sub.length R.c, .int .u8 X.k, .string X.r, .string X.n, .int .i64 X.d, .slice X.A X.sub.length X.c, .int .u8 Y.k, .string Y.r, .string Y.n, .int .i64 Y.d, .slice Y.A Y.sub.length Y.c] 26))
  have HW3 := Lib.hid (btO HW2.out (belo3 w2 P R X Y))
  clear a0 a1 a2 a3 a4 b0 b1 b2 b3 b4 x0 x1 x2 x3 x4 y0 y1 y2 y3 y4 v0 v1 hw1
  generalize w2.alloc (.cells #[.int .u8 P.k, .string P.r, .string P.n, .int .i64 P.d, .slice P.A P.sub.length P.c, .int .u8 R.k, .string R.r, .string R.n, .int .i64 R.d, .slice R.A R.sub.length R.c, .int .u8 X.k, .string X.r, .string X.n, .int .i64 X.d, .slice X.A X.sub.length X.c, .int .u8 Y.k, .string Y.r, .string Y.n, .int .i64 Y.d, .slice Y.A Y.sub.length Y.c] 26) = w3 at *
  go_loopw [38] (fun i wr => ∃ (k : Nat), k ≤ 4 ∧ i = .int .i64 k ∧ Hid (Below w3.heap.size w3 wr)) (fun i _ => 4 - (intOf i).toNat)
  case atStart => exact ⟨0, by omega, rfl, Below.refl _ _⟩
  case round =>
    obtain ⟨k, hk, rfl, HW⟩ := hrel
    have hk : k = 0 ∨ k = 1 ∨ k = 2 ∨ k = 3 ∨ k = 4 := by omega
    rcases hk with rfl | rfl | rfl | rfl | rfl
    · skip
      have t0 := cellO HW.out (row_cell (j := 0) HR.out rfl)
      have t1 := cellO HW.out (row_cell (j := 1) HR.out rfl)
      have t2 := cellO HW.out (row_cell (j := 2) HR.out rfl)
      have t3 := cellO HW.out (row_cell (j := 3) HR.out rfl)
      have t4 := cellO HW.out (row_cell (j := 4) HR.out rfl)
      have HX := Lib.hid (btO HW3.out HW.out)
      have HV0 : Hid (Ex.Box (wr.alloc (.cells #[.int .u8 P.k, .string P.r, .string P.n, .int .i64 P.d, .slice P.A P.sub.length P.c] 26)) wr.heap.size P) := Ex.Box.new wr P 26
      have HX0 := Lib.hid (btO HX.out (belO wr (.cells #[.int .u8 P.k, .string P.r, .string P.n, .int .i64 P.d, .slice P.A P.sub.length P.c] 26)))
      have HY0 := Lib.hid (btO HW.out (belO wr (.cells #[.int .u8 P.k, .string P.r, .string P.n, .int .i64 P.d, .slice P.A P.sub.length P.c] 26)))
      go_wp2_with (first
        | (go_at_call 38; have _t := HX2; ((with_reducible refine (HdP.out _ HX2.out).mono ?_); rintro u w13 ⟨rfl, hb⟩; have HX3 := Lib.hid (btO HX2.out hb); have HY3 := Lib.hid (btO HY2.out hb); have HV3 := Lib.hid (HV2.out.below hb); have z30 := HV3.out.c0; have z31 := HV3.out.c1; have z32 := HV3.out.c2; have z33 := HV3.out.c3; have z34 := HV3.out.c4; clear hb))
        | (go_at_call 37; have _t := HX1; ((with_reducible refine (HsP.out _ HX1.out).mono ?_); rintro u w12 ⟨rfl, hb⟩; have HX2 := Lib.hid (btO HX1.out hb); have HY2 := Lib.hid (btO HY1.out hb); have HV2 := Lib.hid (HV1.out.below hb); have z20 := HV2.out.c0; have z21 := HV2.out.c1; have z22 := HV2.out.c2; have z23 := HV2.out.c3; have z24 := HV2.out.c4; clear hb))
        | (go_at_call 34; have _t := HX0; ((with_reducible refine (HgP.out _ HX0.out).mono ?_); rintro u w11 ⟨rfl, hb⟩; have HX1 := Lib.hid (btO HX0.out hb); have HY1 := Lib.hid (btO HY0.out hb); have HV1 := Lib.hid (HV0.out.below hb); have z10 := HV1.out.c0; have z11 := HV1.out.c1; have z12 := HV1.out.c2; have z13 := HV1.out.c3; have z14 := HV1.out.c4; clear hb)))
      go_roundw
      all_goals first
        | exact ⟨1, by omega, rfl, HY3⟩
        | (simp [intOf]; done)
    · skip
      have t0 := cellO HW.out (row_cell (j := 5) HR.out rfl)
      have t1 := cellO HW.out (row_cell (j := 6) HR.out rfl)
      have t2 := cellO HW.out (row_cell (j := 7) HR.out rfl)
      have t3 := cellO HW.out (row_cell (j := 8) HR.out rfl)
      have t4 := cellO HW.out (row_cell (j := 9) HR.out rfl)
      have HX := Lib.hid (btO HW3.out HW.out)
      have HV0 : Hid (Ex.Box (wr.alloc (.cells #[.int .u8 R.k, .string R.r, .string R.n, .int .i64 R.d, .slice R.A R.sub.length R.c] 26)) wr.heap.size R) := Ex.Box.new wr R 26
      have HX0 := Lib.hid (btO HX.out (belO wr (.cells #[.int .u8 R.k, .string R.r, .string R.n, .int .i64 R.d, .slice R.A R.sub.length R.c] 26)))
      have HY0 := Lib.hid (btO HW.out (belO wr (.cells #[.int .u8 R.k, .string R.r, .string R.n, .int .i64 R.d, .slice R.A R.sub.length R.c] 26)))
      go_wp2_with (first
        | (go_at_call 38; have _t := HX2; ((with_reducible refine (HdR.out _ HX2.out).mono ?_); rintro u w13 ⟨rfl, hb⟩; have HX3 := Lib.hid (btO HX2.out hb); have HY3 := Lib.hid (btO HY2.out hb); have HV3 := Lib.hid (HV2.out.below hb); have z30 := HV3.out.c0; have z31 := HV3.out.c1; have z32 := HV3.out.c2; have z33 := HV3.out.c3; have z34 := HV3.out.c4; clear hb))
        | (go_at_call 37; have _t := HX1; ((with_reducible refine (HsR.out _ HX1.out).mono ?_); rintro u w12 ⟨rfl, hb⟩; have HX2 := Lib.hid (btO HX1.out hb); have HY2 := Lib.hid (btO HY1.out hb); have HV2 := Lib.hid (HV1.out.below hb); have z20 := HV2.out.c0; have z21 := HV2.out.c1; have z22 := HV2.out.c2; have z23 := HV2.out.c3; have z24 := HV2.out.c4; clear hb))
        | (go_at_call 34; have _t := HX0; ((with_reducible refine (HgR.out _ HX0.out).mono ?_); rintro u w11 ⟨rfl, hb⟩; have HX1 := Lib.hid (btO HX0.out hb); have HY1 := Lib.hid (btO HY0.out hb); have HV1 := Lib.hid (HV0.out.below hb); have z10 := HV1.out.c0; have z11 := HV1.out.c1; have z12 := HV1.out.c2; have z13 := HV1.out.c3; have z14 := HV1.out.c4; clear hb)))
      go_roundw
      all_goals first
        | exact ⟨2, by omega, rfl, HY3⟩
        | (simp [intOf]; done)
    · skip
      have t0 := cellO HW.out (row_cell (j := 10) HR.out rfl)
      have t1 := cellO HW.out (row_cell (j := 11) HR.out rfl)
      have t2 := cellO HW.out (row_cell (j := 12) HR.out rfl)
      have t3 := cellO HW.out (row_cell (j := 13) HR.out rfl)
      have t4 := cellO HW.out (row_cell (j := 14) HR.out rfl)
      have HX := Lib.hid (btO HW3.out HW.out)
      have HV0 : Hid (Ex.Box (wr.alloc (.cells #[.int .u8 X.k, .string X.r, .string X.n, .int .i64 X.d, .slice X.A X.sub.length X.c] 26)) wr.heap.size X) := Ex.Box.new wr X 26
      have HX0 := Lib.hid (btO HX.out (belO wr (.cells #[.int .u8 X.k, .string X.r, .string X.n, .int .i64 X.d, .slice X.A X.sub.length X.c] 26)))
      have HY0 := Lib.hid (btO HW.out (belO wr (.cells #[.int .u8 X.k, .string X.r, .string X.n, .int .i64 X.d, .slice X.A X.sub.length X.c] 26)))
      go_wp2_with (first
        | (go_at_call 38; have _t := HX2; ((with_reducible refine (HdX.out _ HX2.out).mono ?_); rintro u w13 ⟨rfl, hb⟩; have HX3 := Lib.hid (btO HX2.out hb); have HY3 := Lib.hid (btO HY2.out hb); have HV3 := Lib.hid (HV2.out.below hb); have z30 := HV3.out.c0; have z31 := HV3.out.c1; have z32 := HV3.out.c2; have z33 := HV3.out.c3; have z34 := HV3.out.c4; clear hb))
        | (go_at_call 37; have _t := HX1; ((with_reducible refine (HsX.out _ HX1.out).mono ?_); rintro u w12 ⟨rfl, hb⟩; have HX2 := Lib.hid (btO HX1.out hb); have HY2 := Lib.hid (btO HY1.out hb); have HV2 := Lib.hid (HV1.out.below hb); have z20 := HV2.out.c0; have z21 := HV2.out.c1; have z22 := HV2.out.c2; have z23 := HV2.out.c3; have z24 := HV2.out.c4; clear hb))
        | (go_at_call 34; have _t := HX0; ((with_reducible refine (HgX.out _ HX0.out).mono ?_); rintro u w11 ⟨rfl, hb⟩; have HX1 := Lib.hid (btO HX0.out hb); have HY1 := Lib.hid (btO HY0.out hb); have HV1 := Lib.hid (HV0.out.below hb); have z10 := HV1.out.c0; have z11 := HV1.out.c1; have z12 := HV1.out.c2; have z13 := HV1.out.c3; have z14 := HV1.out.c4; clear hb)))
      go_roundw
      all_goals first
        | exact ⟨3, by omega, rfl, HY3⟩
        | (simp [intOf]; done)
    · skip
      have t0 := cellO HW.out (row_cell (j := 15) HR.out rfl)
      have t1 := cellO HW.out (row_cell (j := 16) HR.out rfl)
      have t2 := cellO HW.out (row_cell (j := 17) HR.out rfl)
      have t3 := cellO HW.out (row_cell (j := 18) HR.out rfl)
      have t4 := cellO HW.out (row_cell (j := 19) HR.out rfl)
      have HX := Lib.hid (btO HW3.out HW.out)
      have HV0 : Hid (Ex.Box (wr.alloc (.cells #[.int .u8 Y.k, .string Y.r, .string Y.n, .int .i64 Y.d, .slice Y.A Y.sub.length Y.c] 26)) wr.heap.size Y) := Ex.Box.new wr Y 26
      have HX0 := Lib.hid (btO HX.out (belO wr (.cells #[.int .u8 Y.k, .string Y.r, .string Y.n, .int .i64 Y.d, .slice Y.A Y.sub.length Y.c] 26)))
      have HY0 := Lib.hid (btO HW.out (belO wr (.cells #[.int .u8 Y.k, .string Y.r, .string Y.n, .int .i64 Y.d, .slice Y.A Y.sub.length Y.c] 26)))
      go_wp2_with (first
        | (go_at_call 38; have _t := HX2; ((with_reducible refine (HdY.out _ HX2.out).mono ?_); rintro u w13 ⟨rfl, hb⟩; have HX3 := Lib.hid (btO HX2.out hb); have HY3 := Lib.hid (btO HY2.out hb); have HV3 := Lib.hid (HV2.out.below hb); have z30 := HV3.out.c0; have z31 := HV3.out.c1; have z32 := HV3.out.c2; have z33 := HV3.out.c3; have z34 := HV3.out.c4; clear hb))
        | (go_at_call 37; have _t := HX1; ((with_reducible refine (HsY.out _ HX1.out).mono ?_); rintro u w12 ⟨rfl, hb⟩; have HX2 := Lib.hid (btO HX1.out hb); have HY2 := Lib.hid (btO HY1.out hb); have HV2 := Lib.hid (HV1.out.below hb); have z20 := HV2.out.c0; have z21 := HV2.out.c1; have z22 := HV2.out.c2; have z23 := HV2.out.c3; have z24 := HV2.out.c4; clear hb))
        | (go_at_call 34; have _t := HX0; ((with_reducible refine (HgY.out _ HX0.out).mono ?_); rintro u w11 ⟨rfl, hb⟩; have HX1 := Lib.hid (btO HX0.out hb); have HY1 := Lib.hid (btO HY0.out hb); have HV1 := Lib.hid (HV0.out.below hb); have z10 := HV1.out.c0; have z11 := HV1.out.c1; have z12 := HV1.out.c2; have z13 := HV1.out.c3; have z14 := HV1.out.c4; clear hb)))
      go_roundw
      all_goals first
        | exact ⟨4, by omega, rfl, HY3⟩
        | (simp [intOf]; done)
    · skip
      have HX20 := Lib.hid (btO HW3.out HW.out)
      obtain ⟨a0, a1, a2, a3, a4, b0, b1, b2, b3, b4, x0, x1, x2, x3, x4, y0, y1, y2, y3, y4, v0, v1⟩ := HG.out _ HX20.out
      rcases key with ⟨rfl, -⟩ | ⟨rfl, rfl⟩ | ⟨rfl, rfl, rfl⟩ | ⟨rfl, rfl, rfl, rfl⟩ | ⟨rfl, rfl, rfl, rfl, rfl⟩
      all_goals (
        go_wp2_with (first
            | (go_at_call 14; have _t := HX24; ((with_reducible refine (HnY.out _ HX24.out).mono ?_); rintro u w25 ⟨rfl, hb⟩; clear a0 a1 a2 a3 a4 b0 b1 b2 b3 b4 x0 x1 x2 x3 x4 y0 y1 y2 y3 y4 v0 v1; have HX25 := Lib.hid (btO HX24.out hb); obtain ⟨a0, a1, a2, a3, a4, b0, b1, b2, b3, b4, x0, x1, x2, x3, x4, y0, y1, y2, y3, y4, v0, v1⟩ := HG.out _ HX25.out; clear hb))
            | (go_at_call 14; have _t := HX23; ((with_reducible refine (HnX.out _ HX23.out).mono ?_); rintro u w24 ⟨rfl, hb⟩; clear a0 a1 a2 a3 a4 b0 b1 b2 b3 b4 x0 x1 x2 x3 x4 y0 y1 y2 y3 y4 v0 v1; have HX24 := Lib.hid (btO HX23.out hb); obtain ⟨a0, a1, a2, a3, a4, b0, b1, b2, b3, b4, x0, x1, x2, x3, x4, y0, y1, y2, y3, y4, v0, v1⟩ := HG.out _ HX24.out; clear hb))
            | (go_at_call 15; have _t := HX22; ((with_reducible refine (HtR.out _ HX22.out).mono ?_); rintro u w23 ⟨rfl, hb⟩; clear a0 a1 a2 a3 a4 b0 b1 b2 b3 b4 x0 x1 x2 x3 x4 y0 y1 y2 y3 y4 v0 v1; have HX23 := Lib.hid (btO HX22.out hb); obtain ⟨a0, a1, a2, a3, a4, b0, b1, b2, b3, b4, x0, x1, x2, x3, x4, y0, y1, y2, y3, y4, v0, v1⟩ := HG.out _ HX23.out; clear hb))
            | (go_at_call 15; have _t := HX21; ((with_reducible refine (HtP.out _ HX21.out).mono ?_); rintro u w22 ⟨rfl, hb⟩; clear a0 a1 a2 a3 a4 b0 b1 b2 b3 b4 x0 x1 x2 x3 x4 y0 y1 y2 y3 y4 v0 v1; have HX22 := Lib.hid (btO HX21.out hb); obtain ⟨a0, a1, a2, a3, a4, b0, b1, b2, b3, b4, x0, x1, x2, x3, x4, y0, y1, y2, y3, y4, v0, v1⟩ := HG.out _ HX22.out; clear hb))
            | (go_at_call 24; have _t := HX20; ((with_reducible refine (Hgv.out _ HX20.out).mono ?_); rintro u w21 ⟨rfl, hb⟩; clear a0 a1 a2 a3 a4 b0 b1 b2 b3 b4 x0 x1 x2 x3 x4 y0 y1 y2 y3 y4 v0 v1; have HX21 := Lib.hid (btO HX20.out hb); obtain ⟨a0, a1, a2, a3, a4, b0, b1, b2, b3, b4, x0, x1, x2, x3, x4, y0, y1, y2, y3, y4, v0, v1⟩ := HG.out _ HX21.out; clear hb)))
        go_ret
        exact ⟨rfl, btO HB.out (by first | exact HX25.out | exact HX24.out | exact HX23.out | exact HX22.out | exact HX21.out)⟩)
end Go.Proofs.YtnomccgdajcfiaaGreatDoor
/- Layer 8: what fixed makes of a tree: its sort, size and value (plain). -/
namespace Go.Proofs.YtnomccgdajcfiaaGreatDoor
open Go
theorem Ex.fx_er (day : Int) (t : Ex) : (t.fx day).er = t.fx day := by
  induction t using Ex.ind with
  | h k r n d A c s ih =>
  rw [Ex.fx_mk, Ex.er_mk, List.map_map]
  congr 1
  exact List.map_congr_left fun t ht => ih t ht
theorem Ex.fold_fx {α : Type} (f : Int → ByteArray → ByteArray → Int → List α → α) (day : Int) (hf : ∀ r n d l, f 2 r n day l = f 3 r n d l) (t : Ex) : Ex.fold f (t.fx day) = Ex.fold f t := by
  induction t using Ex.ind with
  | h k r n d A c s ih =>
  have hs : (s.map (Ex.fx day)).map (Ex.fold f) = s.map (Ex.fold f) := by
    rw [List.map_map]
    exact List.map_congr_left fun t ht => ih t ht
  rw [Ex.fx_mk, Ex.fold_mk, Ex.fold_mk, hs]
  by_cases h : k = 3
  · subst h; rw [if_pos rfl, if_pos rfl]; exact hf _ _ _ _
  · rw [if_neg h, if_neg h]
theorem Ex.fx_siz (day : Int) (t : Ex) : (t.fx day).siz = t.siz := Ex.fold_fx _ day (fun _ _ _ _ => rfl) t
theorem Ex.fx_dep (day : Int) (t : Ex) : (t.fx day).dep = t.dep := Ex.fold_fx _ day (fun _ _ _ _ => rfl) t
theorem Ex.fx_byt (day : Int) (t : Ex) : (t.fx day).byt = t.byt := Ex.fold_fx _ day (fun _ _ _ _ => rfl) t
theorem evT_23 (l : List (NR × TR)) : evT 2 l = evT 3 l := by
  unfold evT
  rw [if_neg (by decide), if_neg (by decide), if_neg (by decide), if_neg (by decide)]
  unfold cpR cpT
  simp
theorem Ex.fx_ev (fs : List Fx) (day : Int) (t : Ex) : (t.fx day).ev fs day = t.ev fs day := Ex.fold_fx _ day (fun r n d l => by
  unfold evF
  rw [evT_23]
  congr 1) t
theorem Ex.fx_srt {day : Int} (hd : dayO day = true) (t : Ex) (h : t.srt ≠ 0) : (t.fx day).srt = t.srt := by
  induction t using Ex.ind with
  | h k r n d A c s ih =>
  obtain ⟨h1, h2, h3⟩ := srt_parts (x := Ex.srt (.mk k r n d A c s)) h rfl
  have hs : (s.map (Ex.fx day)).map Ex.srt = s.map Ex.srt := by
    rw [List.map_map]
    refine List.map_congr_left fun t ht => ih t ht ?_
    have hm : t.srt ∈ prtL k := by rw [← h3]; exact List.mem_map_of_mem ht
    rcases prtL_12 k _ hm with e | e <;> omega
  rw [Ex.fx_mk, Ex.srt_mk, hs]
  by_cases h0 : k = 3
  · subst h0
    rw [if_pos rfl, if_pos rfl]
    have h2' : emB r = true ∧ nameO n.data.toList = true := by
      unfold fldB at h2
      rw [if_neg (by decide), if_neg (by decide), if_pos rfl] at h2
      simp only [Bool.and_eq_true] at h2
      exact h2.1
    have h3' : s.map Ex.srt = prtL 2 := by rw [h3]; rfl
    rw [srtF_ok ⟨by decide, ?_, h3'⟩]
    · rw [← h1]; rfl
    · unfold fldB
      rw [if_neg (by decide), if_pos rfl, h2'.1, h2'.2, hd]
      rfl
  · rw [if_neg h0, if_neg h0, Ex.srt_mk]
theorem srtB_fx (day : Int) (t : Ex) : srtB (t.fx day).k = srtB t.k := by
  obtain ⟨k, r, n, d, A, c, s⟩ := t
  rw [Ex.fx_mk]
  show srtB (if k = 3 then 2 else k) = srtB k
  by_cases h : k = 3
  · subst h; rfl
  · rw [if_neg h]
theorem valN_fx {T' X : Ex} {day : Int} (fs : List Fx) (cs : List Cx) (he : T'.er = X.fx day) (hd : dayO day = true) (hX : X.isB 1 = true) : valN T' day fs cs = valN X day fs cs := by
  rw [valN_er (u := X.fx day) (he.trans (Ex.fx_er day X).symm)]
  obtain ⟨h1, h2, h3⟩ := isB_k (.inl rfl) hX
  have hs : (X.fx day).srt = X.srt := Ex.fx_srt hd X (by rw [h3]; decide)
  unfold valN askE Ex.chk Ex.many
  rw [hs, Ex.fx_siz, Ex.fx_dep, srtB_fx, Ex.fx_ev]
theorem er_siz {T' X : Ex} {day : Int} (he : T'.er = X.fx day) : T'.siz = X.siz := (Ex.fold_same _ (he.trans (Ex.fx_er day X).symm)).trans (Ex.fx_siz day X)
theorem er_byt {T' X : Ex} {day : Int} (he : T'.er = X.fx day) : T'.byt = X.byt := (Ex.fold_same _ (he.trans (Ex.fx_er day X).symm)).trans (Ex.fx_byt day X)
end Go.Proofs.YtnomccgdajcfiaaGreatDoor
/- Layer 8: what Put and Choose return, as laws see it. -/
namespace Go.Proofs.YtnomccgdajcfiaaGreatDoor
open Go Go.RowKit Go.BigFrame
def EvP (L : List Fx) (C : List Cx) (g : Int) (w : World) (x : Ending) (w' : World) : Prop := ∃ A c A2 c2, x = .returned (.tuple #[.agg #[.slice A L.length c, .slice A2 C.length c2], .int .i64 g]) ∧ Ev.In w' ⟨A, L, c, A2, C, c2⟩ ∧ CapR A L.length c ∧ CapR A2 C.length c2 ∧ Below w.heap.size w w'
structure EvK (w : World) (A : Option Addr) (L : List Fx) (c : Nat) (A2 : Option Addr) (C : List Cx) (c2 : Nat) : Prop where
  i : Ev.In w ⟨A, L, c, A2, C, c2⟩
  k : CapR A L.length c
  k2 : CapR A2 C.length c2
theorem PutO.evP {L : List Fx} {C : List Cx} {e : Int} {w w' : World} {x : Ending} (h : PutO L C e w x w') (l1 : L.length ≤ 1000) (l2 : C.length ≤ 1000) (b1 : ∀ f ∈ L, f.1.size ≤ 140737488351232 ∧ f.2.2.size ≤ 140737488351232) (b2 : ∀ c ∈ C, c.1.size ≤ 140737488351232 ∧ c.2.1.size ≤ 140737488351232) : EvP L C e w x w' := by
  obtain ⟨A, c, A2, c2, h1, h2, h3, h4, -, -, h5⟩ := h.ev l1 l2 b1 b2
  exact ⟨A, c, A2, c2, h1, h2, h3, h4, h5⟩
section
variable {fs : List Fx} {cs : List Cx}
def ShF (fs : List Fx) : Prop := ∀ f ∈ fs, f.1.size ≤ 140737488351232 ∧ f.2.2.size ≤ 1048576
def ShC (cs : List Cx) : Prop := ∀ c ∈ cs, c.1.size ≤ 140737488351232 ∧ c.2.1.size ≤ 140737488351232
theorem ShF.big {fs : List Fx} (h : ShF fs) : ∀ f ∈ fs, f.1.size ≤ 140737488351232 ∧ f.2.2.size ≤ 140737488351232 := fun f hf => ⟨(h f hf).1, by have := (h f hf).2; omega⟩
theorem ShF.put (h : ShF fs) {f : Fx} (h1 : f.1.size ≤ 140737488351232) (h2 : f.2.2.size ≤ 1048576) : ShF (putFL fs cs f) := fun z hz => by
  rcases putFL_mem hz with rfl | hz
  · exact ⟨h1, h2⟩
  · exact h z hz
theorem ShC.put (h : ShC cs) {f : Fx} : ShC (putFC fs cs f) := fun z hz => h z (putFC_mem hz)
theorem call_put (hF : ShF fs) (hC : ShC cs) (n v : ByteArray) (d : Int) (hn : n.size ≤ 140737488351232) (hv : v.size ≤ 1048576) (W : World) (hvr : VarR W) (A : Option Addr) (c : Nat) (B : Option Addr) (k : Nat) (hk : EvK W A fs c B cs k) :
    Calls Tryz.prog 19 #[.agg #[.slice A fs.length c, .slice B cs.length k], .agg #[.string n, .int .i64 d, .string v]] W (EvP (putFL fs cs (n, d, v)) (putFC fs cs (n, d, v)) (putFE fs cs (n, d, v)) W) :=
  (pput_any ⟨A, fs, c, B, cs, k⟩ n v d W hk.i hvr (fun f hf => (hF f hf).2) hk.k hv).mono fun _ _ h => PutO.evP h (putFL_len _ _ _) (putFC_len _ _ _) (hF.put hn hv).big hC.put
end
theorem put_is {fs : List Fx} {cs : List Cx} {f : Fx} (h : putFE fs cs f = 0) : putFL fs cs f = insL Fx.key f fs ∧ putFC fs cs f = cs := by
  unfold putFL putFC
  rw [if_pos h, if_pos h]
  exact ⟨rfl, rfl⟩
end Go.Proofs.YtnomccgdajcfiaaGreatDoor

/- Joined: OeG, OeN, OeQ, OeL8, OeL9. -/
import Derived.Test.YtbfimfjhdbpenaaGreatDoorPl26
import Derived.Test.YtbfimfjhdbpenaaGreatDoorPl27
import Derived.Test.YtbfimfjhdbpenaaGreatDoorPl23
import Derived.Test.YtbfimfjhdbpenaaGreatDoorPl22
import Derived.Deep.RegionHeld3
/- Layer 8: the law's own function alive. -/
namespace Go.Proofs.YtbfimfjhdbpenaaGreatDoor
open Go Go.RowKit Go.BigFrame
theorem valN_er {t u : Ex} (h : t.er = u.er) (day : Int) (fs : List Fx) (cs : List Cx) : valN t day fs cs = valN u day fs cs := by
  have h1 : t.siz = u.siz := Ex.fold_same _ h
  have h2 : t.dep = u.dep := Ex.fold_same _ h
  have h3 : t.srt = u.srt := Ex.fold_same _ h
  have h4 : t.ev fs day = u.ev fs day := Ex.fold_same _ h
  have h5 : t.k = u.k := by
    obtain ⟨k, r, n, d, A, c, s⟩ := t
    obtain ⟨k', r', n', d', A', c', s'⟩ := u
    exact (Ex.er_eq.1 h).1
  unfold valN askE Ex.chk Ex.many
  rw [h1, h2, h3, h4, h5]
def aF : Fx := (⟨#[115, 112, 111, 116]⟩, 5, ⟨#[55, 47, 50]⟩)
def aT (A B : Option Addr) (c d : Nat) : Ex := .mk 7 ⟨#[]⟩ ⟨#[]⟩ 0 A c [.mk 5 ⟨#[]⟩ ⟨#[]⟩ 0 B d [nowT ⟨#[115, 112, 111, 116]⟩, conT ⟨#[51]⟩], conT ⟨#[48]⟩]
theorem aT_er (A B : Option Addr) (c d : Nat) : (aT A B c d).er = (aT none none 0 0).er := rfl
theorem al1 : putFE [] [] aF = 0 := by decide +kernel
theorem al2 : putFL [] [] aF = [aF] ∧ putFC [] [] aF = [] := by decide +kernel
theorem al3 : valN (aT none none 0 0) 5 [aF] [] = (⟨#[49, 47, 50]⟩, 0) := by decide +kernel
theorem al4 : valN (aT none none 0 0) 6 [aF] [] = (⟨#[]⟩, 30) := by decide +kernel
theorem aT_siz (A B : Option Addr) (c d : Nat) : (aT A B c d).siz = 5 := rfl
theorem aT_byt (A B : Option Addr) (c d : Nat) : (aT A B c d).byt = 6 := rfl
abbrev aE (A : Option Addr) (c : Nat) (A2 : Option Addr) (c2 : Nat) : Ev := ⟨A, [aF], c, A2, [], c2⟩
def APut (w : World) (e : Ending) (w' : World) : Prop := ∃ A c A2 c2, e = .returned (.tuple #[.agg #[.slice A 1 c, .slice A2 0 c2], .int .i64 0]) ∧ (aE A c A2 c2).Inv w' ∧ Below w.heap.size w w'
theorem alive_put (w : World) (hv : VarR w) : Calls Tryz.prog 19 #[.agg #[.slice none 0 0, .slice none 0 0], .agg #[.string ⟨#[115, 112, 111, 116]⟩, .int .i64 5, .string ⟨#[55, 47, 50]⟩]] w (APut w) := by
  have h := pput_any ⟨none, [], 0, none, [], 0⟩ aF.1 aF.2.2 aF.2.1 w ⟨RowsR.nil, RowsR.nil, Nat.zero_le _, Nat.zero_le _, fun f hf => by simp at hf, fun f hf => by simp at hf⟩ hv (fun f hf => by simp at hf) ⟨Nat.le_refl _, Nat.zero_le _, fun _ => rfl⟩ (by decide)
  refine h.mono fun e w' hp => ?_
  have hp : PutO (putFL [] [] aF) (putFC [] [] aF) (putFE [] [] aF) w e w' := hp
  rw [al1, al2.1, al2.2] at hp
  obtain ⟨A, c, A2, c2, h1, h2, -, -, -, -, h3⟩ := hp.ev (by simp) (by simp) (fun f hf => by simp at hf; subst hf; decide) (fun f hf => by simp at hf)
  exact ⟨A, c, A2, c2, h1, ⟨h2, hv.below h3⟩, h3⟩
theorem alive_val (b1 b2 : Nat) (A : Option Addr) (c : Nat) (A2 : Option Addr) (c2 : Nat) (day : Int) (v : ByteArray) (g : Int) (hd : valN (aT none none 0 0) day [aF] [] = (v, g)) (W : World) (hT : (pairT 7 b2 (pairT 5 b1 (nowT ⟨#[115, 112, 111, 116]⟩) (conT ⟨#[51]⟩)) (conT ⟨#[48]⟩)).In W) (hE : (aE A c A2 c2).Inv W) :
    Calls Tryz.prog 17 #[(pairT 7 b2 (pairT 5 b1 (nowT ⟨#[115, 112, 111, 116]⟩) (conT ⟨#[51]⟩)) (conT ⟨#[48]⟩)).val, .int .i64 day, .agg #[.slice A 1 c, .slice A2 0 c2]] W (StE v g W) := by
  have h := pvalue_any (aT (some ⟨b2, 0, none⟩) (some ⟨b1, 0, none⟩) 2 2) (aE A c A2 c2) day W hT hE (by rw [aT_siz]; decide) (by rw [aT_byt]; decide) (fun f hf => by simp at hf; subst hf; decide)
  have e : valN (aT (some ⟨b2, 0, none⟩) (some ⟨b1, 0, none⟩) 2 2) day (aE A c A2 c2).fs (aE A c A2 c2).cs = (v, g) := (valN_er (aT_er _ _ _ _) _ _ _).trans hd
  rw [e] at h
  exact h
set_option maxRecDepth 100000 in
set_option maxHeartbeats 6400000 in
theorem alive_any8 (w : World) (hv : VarR w) : Calls Tryz.prog 23 #[] w (BoolRO true w) := by
  have HP := Lib.hid (alive_put w hv)
  have HC := Lib.hid con_any8
  have HN := Lib.hid now_any8
  have HQ := Lib.hid pair_any8
  have HV := Lib.hid alive_val
  clear hv
  go_enter Tryz.func23, Tryz.ntmps23
  go_wp2_with (first
    | (go_at_call 17; have _t := HW9; ((with_reducible refine (HV6.out _ (T2.out.below HX9.out) IE9.out).mono ?_); rintro u w10 ⟨rfl, hb⟩; have HW10 := Lib.hid (btO HW9.out hb); clear hb))
    | (go_at_call 17; ((with_reducible refine (HV5.out _ (T2.out.below (belO _ _)) (IE.out.below (btO (btO (belO w2 _) HA7.out) (belO _ _)))).mono ?_); rintro u w9 ⟨rfl, hb⟩; have HX9 := Lib.hid (btO (belO w7 _) hb); have HT := heap_alloc_new w7 (.cells #[.int .u8 T.k, .string T.r, .string T.n, .int .i64 T.d, .slice T.A T.sub.length T.c] 26); have l0 := cellO hb (row_cell (j := 0) HT rfl); have l1 := cellO hb (row_cell (j := 1) HT rfl); have l2 := cellO hb (row_cell (j := 2) HT rfl); have l3 := cellO hb (row_cell (j := 3) HT rfl); have l4 := cellO hb (row_cell (j := 4) HT rfl); have q0 := cellO hb (d0 (.cells #[.int .u8 T.k, .string T.r, .string T.n, .int .i64 T.d, .slice T.A T.sub.length T.c] 26)); have q1 := cellO hb (d1 (.cells #[.int .u8 T.k, .string T.r, .string T.n, .int .i64 T.d, .slice T.A T.sub.length T.c] 26)); have IE9 := Lib.hid (IE.out.below (btO (btO (belO w2 _) HA7.out) HX9.out)); have HW9 := Lib.hid (btO HW7.out HX9.out); clear hb HT d0 d1))
    | (go_at_call 12; have _t := HW6; ((with_reducible refine (HQ.out 7 (by decide) (by decide) _ (conT ⟨#[48]⟩) _ T1.out (conT_in _ (by decide))).mono ?_); rintro u w7 ⟨b2, rfl, ht, hb⟩; have HW7 := Lib.hid (btO HW6.out hb); have HA7 := Lib.hid (btO HA6.out hb); have T2 := Lib.hid ht; have HV5 := Lib.hid (fun W h1 h2 => HV.out b1 b2 A c A2 c2 5 _ _ al3 W h1 h2); have HV6 := Lib.hid (fun W h1 h2 => HV.out b1 b2 A c A2 c2 6 _ _ al4 W h1 h2); have d0 := fun o : Obj => cellO (belO w7 o) (cellO HA7.out (row_cell (j := 0) HR.out rfl)); have d1 := fun o : Obj => cellO (belO w7 o) (cellO HA7.out (row_cell (j := 1) HR.out rfl)); clear ht hb; generalize pairT 7 b2 (pairT 5 b1 (nowT ⟨#[115, 112, 111, 116]⟩) (conT ⟨#[51]⟩)) (conT ⟨#[48]⟩) = T at *))
    | (go_at_call 11; have _t := HW5; ((with_reducible refine (HC.out _ _).mono ?_); rintro u w6 ⟨rfl, hb⟩; have HW6 := Lib.hid (btO HW5.out hb); have HA6 := Lib.hid (btO HA5.out hb); have T1 := Lib.hid (T0.out.below hb); clear hb))
    | (go_at_call 12; ((with_reducible refine (HQ.out 5 (by decide) (by decide) (nowT ⟨#[115, 112, 111, 116]⟩) (conT ⟨#[51]⟩) _ (nowT_in _ (by decide)) (conT_in _ (by decide))).mono ?_); rintro u w5 ⟨b1, rfl, ht, hb⟩; have T0 := Lib.hid ht; have HW5 := Lib.hid (btO HW4.out hb); have HA5 := Lib.hid (btO HA4.out hb); clear ht hb))
    | (go_at_call 11; ((with_reducible refine (HC.out _ _).mono ?_); rintro u w4 ⟨rfl, hb⟩; have HW4 := Lib.hid (btO HW3.out hb); have HA4 := Lib.hid (btO HA3.out hb); clear hb))
    | (go_at_call 16; ((with_reducible refine (HN.out _ _).mono ?_); rintro u w3 ⟨rfl, hb⟩; have HA3 := Lib.hid hb; have HW3 := Lib.hid (btO HW2.out (btO (belO w2 _) hb)); clear hb))
    | (go_at_call 19; ((with_reducible refine HP.out.mono ?_); rintro u w2 ⟨A, c, A2, c2, rfl, he, hb⟩; have IE := Lib.hid he; have HW2 := Lib.hid hb; have HR := Lib.hid (heap_alloc_new w2 (.cells #[.slice A 1 c, .slice A2 0 c2] 38)); clear he hb)))
  go_ret
  exact ⟨rfl, HW10.out⟩
end Go.Proofs.YtbfimfjhdbpenaaGreatDoor
/- Layer 8: what fixed makes of a tree: its sort, size and value (plain). -/
namespace Go.Proofs.YtbfimfjhdbpenaaGreatDoor
open Go
theorem Ex.fx_er (day : Int) (t : Ex) : (t.fx day).er = t.fx day := by
  induction t using Ex.ind with
  | h k r n d A c s ih =>
  rw [Ex.fx_mk, Ex.er_mk, List.map_map]
  congr 1
  exact List.map_congr_left fun t ht => ih t ht
theorem Ex.fold_fx {α : Type} (f : Int → ByteArray → ByteArray → Int → List α → α) (day : Int) (hf : ∀ r n d l, f 2 r n day l = f 3 r n d l) (t : Ex) : Ex.fold f (t.fx day) = Ex.fold f t := by
  induction t using Ex.ind with
  | h k r n d A c s ih =>
  have hs : (s.map (Ex.fx day)).map (Ex.fold f) = s.map (Ex.fold f) := by
    rw [List.map_map]
    exact List.map_congr_left fun t ht => ih t ht
  rw [Ex.fx_mk, Ex.fold_mk, Ex.fold_mk, hs]
  by_cases h : k = 3
  · subst h; rw [if_pos rfl, if_pos rfl]; exact hf _ _ _ _
  · rw [if_neg h, if_neg h]
theorem Ex.fx_siz (day : Int) (t : Ex) : (t.fx day).siz = t.siz := Ex.fold_fx _ day (fun _ _ _ _ => rfl) t
theorem Ex.fx_dep (day : Int) (t : Ex) : (t.fx day).dep = t.dep := Ex.fold_fx _ day (fun _ _ _ _ => rfl) t
theorem Ex.fx_byt (day : Int) (t : Ex) : (t.fx day).byt = t.byt := Ex.fold_fx _ day (fun _ _ _ _ => rfl) t
theorem evT_23 (l : List (NR × TR)) : evT 2 l = evT 3 l := by
  unfold evT
  rw [if_neg (by decide), if_neg (by decide), if_neg (by decide), if_neg (by decide)]
  unfold cpR cpT
  simp
theorem Ex.fx_ev (fs : List Fx) (day : Int) (t : Ex) : (t.fx day).ev fs day = t.ev fs day := Ex.fold_fx _ day (fun r n d l => by
  unfold evF
  rw [evT_23]
  congr 1) t
theorem Ex.fx_srt {day : Int} (hd : dayO day = true) (t : Ex) (h : t.srt ≠ 0) : (t.fx day).srt = t.srt := by
  induction t using Ex.ind with
  | h k r n d A c s ih =>
  obtain ⟨h1, h2, h3⟩ := srt_parts (x := Ex.srt (.mk k r n d A c s)) h rfl
  have hs : (s.map (Ex.fx day)).map Ex.srt = s.map Ex.srt := by
    rw [List.map_map]
    refine List.map_congr_left fun t ht => ih t ht ?_
    have hm : t.srt ∈ prtL k := by rw [← h3]; exact List.mem_map_of_mem ht
    rcases prtL_12 k _ hm with e | e <;> omega
  rw [Ex.fx_mk, Ex.srt_mk, hs]
  by_cases h0 : k = 3
  · subst h0
    rw [if_pos rfl, if_pos rfl]
    have h2' : emB r = true ∧ nameO n.data.toList = true := by
      unfold fldB at h2
      rw [if_neg (by decide), if_neg (by decide), if_pos rfl] at h2
      simp only [Bool.and_eq_true] at h2
      exact h2.1
    have h3' : s.map Ex.srt = prtL 2 := by rw [h3]; rfl
    rw [srtF_ok ⟨by decide, ?_, h3'⟩]
    · rw [← h1]; rfl
    · unfold fldB
      rw [if_neg (by decide), if_pos rfl, h2'.1, h2'.2, hd]
      rfl
  · rw [if_neg h0, if_neg h0, Ex.srt_mk]
theorem srtB_fx (day : Int) (t : Ex) : srtB (t.fx day).k = srtB t.k := by
  obtain ⟨k, r, n, d, A, c, s⟩ := t
  rw [Ex.fx_mk]
  show srtB (if k = 3 then 2 else k) = srtB k
  by_cases h : k = 3
  · subst h; rfl
  · rw [if_neg h]
theorem valN_fx {T' X : Ex} {day : Int} (fs : List Fx) (cs : List Cx) (he : T'.er = X.fx day) (hd : dayO day = true) (hX : X.isB 1 = true) : valN T' day fs cs = valN X day fs cs := by
  rw [valN_er (u := X.fx day) (he.trans (Ex.fx_er day X).symm)]
  obtain ⟨h1, h2, h3⟩ := isB_k (.inl rfl) hX
  have hs : (X.fx day).srt = X.srt := Ex.fx_srt hd X (by rw [h3]; decide)
  unfold valN askE Ex.chk Ex.many
  rw [hs, Ex.fx_siz, Ex.fx_dep, srtB_fx, Ex.fx_ev]
theorem er_siz {T' X : Ex} {day : Int} (he : T'.er = X.fx day) : T'.siz = X.siz := (Ex.fold_same _ (he.trans (Ex.fx_er day X).symm)).trans (Ex.fx_siz day X)
theorem er_byt {T' X : Ex} {day : Int} (he : T'.er = X.fx day) : T'.byt = X.byt := (Ex.fold_same _ (he.trans (Ex.fx_er day X).symm)).trans (Ex.fx_byt day X)
end Go.Proofs.YtbfimfjhdbpenaaGreatDoor
/- Layer 8: what Put and Choose return, as laws see it. -/
namespace Go.Proofs.YtbfimfjhdbpenaaGreatDoor
open Go Go.RowKit Go.BigFrame
def EvP (L : List Fx) (C : List Cx) (g : Int) (w : World) (x : Ending) (w' : World) : Prop := ∃ A c A2 c2, x = .returned (.tuple #[.agg #[.slice A L.length c, .slice A2 C.length c2], .int .i64 g]) ∧ Ev.In w' ⟨A, L, c, A2, C, c2⟩ ∧ CapR A L.length c ∧ CapR A2 C.length c2 ∧ Below w.heap.size w w'
structure EvK (w : World) (A : Option Addr) (L : List Fx) (c : Nat) (A2 : Option Addr) (C : List Cx) (c2 : Nat) : Prop where
  i : Ev.In w ⟨A, L, c, A2, C, c2⟩
  k : CapR A L.length c
  k2 : CapR A2 C.length c2
theorem PutO.evP {L : List Fx} {C : List Cx} {e : Int} {w w' : World} {x : Ending} (h : PutO L C e w x w') (l1 : L.length ≤ 1000) (l2 : C.length ≤ 1000) (b1 : ∀ f ∈ L, f.1.size ≤ 140737488351232 ∧ f.2.2.size ≤ 140737488351232) (b2 : ∀ c ∈ C, c.1.size ≤ 140737488351232 ∧ c.2.1.size ≤ 140737488351232) : EvP L C e w x w' := by
  obtain ⟨A, c, A2, c2, h1, h2, h3, h4, -, -, h5⟩ := h.ev l1 l2 b1 b2
  exact ⟨A, c, A2, c2, h1, h2, h3, h4, h5⟩
section
variable {fs : List Fx} {cs : List Cx}
def ShF (fs : List Fx) : Prop := ∀ f ∈ fs, f.1.size ≤ 140737488351232 ∧ f.2.2.size ≤ 1048576
def ShC (cs : List Cx) : Prop := ∀ c ∈ cs, c.1.size ≤ 140737488351232 ∧ c.2.1.size ≤ 140737488351232
theorem ShF.big {fs : List Fx} (h : ShF fs) : ∀ f ∈ fs, f.1.size ≤ 140737488351232 ∧ f.2.2.size ≤ 140737488351232 := fun f hf => ⟨(h f hf).1, by have := (h f hf).2; omega⟩
theorem ShF.put (h : ShF fs) {f : Fx} (h1 : f.1.size ≤ 140737488351232) (h2 : f.2.2.size ≤ 1048576) : ShF (putFL fs cs f) := fun z hz => by
  rcases putFL_mem hz with rfl | hz
  · exact ⟨h1, h2⟩
  · exact h z hz
theorem ShC.put (h : ShC cs) {f : Fx} : ShC (putFC fs cs f) := fun z hz => h z (putFC_mem hz)
theorem call_put (hF : ShF fs) (hC : ShC cs) (n v : ByteArray) (d : Int) (hn : n.size ≤ 140737488351232) (hv : v.size ≤ 1048576) (W : World) (hvr : VarR W) (A : Option Addr) (c : Nat) (B : Option Addr) (k : Nat) (hk : EvK W A fs c B cs k) :
    Calls Tryz.prog 19 #[.agg #[.slice A fs.length c, .slice B cs.length k], .agg #[.string n, .int .i64 d, .string v]] W (EvP (putFL fs cs (n, d, v)) (putFC fs cs (n, d, v)) (putFE fs cs (n, d, v)) W) :=
  (pput_any ⟨A, fs, c, B, cs, k⟩ n v d W hk.i hvr (fun f hf => (hF f hf).2) hk.k hv).mono fun _ _ h => PutO.evP h (putFL_len _ _ _) (putFC_len _ _ _) (hF.put hn hv).big hC.put
end
theorem put_is {fs : List Fx} {cs : List Cx} {f : Fx} (h : putFE fs cs f = 0) : putFL fs cs f = insL Fx.key f fs ∧ putFC fs cs f = cs := by
  unfold putFL putFC
  rw [if_pos h, if_pos h]
  exact ⟨rfl, rfl⟩
end Go.Proofs.YtbfimfjhdbpenaaGreatDoor
/- The law ObservableLocal: the walks. -/
namespace Go.Proofs.YtbfimfjhdbpenaaGreatDoor
open Go Go.RowKit Go.BigFrame
structure LcG (Q : Nat) (X : Ex) (E : Ev) (fn fv : ByteArray) (fd : Int) (W : World) : Prop where
  x0 : W.cell? ⟨Q, 0, none⟩ = some (.int .u8 X.k)
  x1 : W.cell? ⟨Q, 1, none⟩ = some (.string X.r)
  x2 : W.cell? ⟨Q, 2, none⟩ = some (.string X.n)
  x3 : W.cell? ⟨Q, 3, none⟩ = some (.int .i64 X.d)
  x4 : W.cell? ⟨Q, 4, none⟩ = some (.slice X.A X.sub.length X.c)
  v0 : W.cell? ⟨Q + 1, 0, none⟩ = some (.slice E.fA E.fs.length E.fc)
  v1 : W.cell? ⟨Q + 1, 1, none⟩ = some (.slice E.cA E.cs.length E.cc)
  f0 : W.cell? ⟨Q + 1 + 1, 0, none⟩ = some (.string fn)
  f1 : W.cell? ⟨Q + 1 + 1, 1, none⟩ = some (.int .i64 fd)
  f2 : W.cell? ⟨Q + 1 + 1, 2, none⟩ = some (.string fv)
theorem LcG.below {Q : Nat} {X : Ex} {E : Ev} {fn fv : ByteArray} {fd : Int} {W W' : World} (h : LcG Q X E fn fv fd W) (hb : Below W.heap.size W W') : LcG Q X E fn fv fd W' := ⟨cellO hb h.x0, cellO hb h.x1, cellO hb h.x2, cellO hb h.x3, cellO hb h.x4, cellO hb h.v0, cellO hb h.v1, cellO hb h.f0, cellO hb h.f1, cellO hb h.f2⟩
theorem lc_begin (w : World) (X : Ex) (E : Ev) (fn fv : ByteArray) (fd : Int) : ∃ w1, (((w.alloc (.cells #[.int .u8 X.k, .string X.r, .string X.n, .int .i64 X.d, .slice X.A X.sub.length X.c] 26)).alloc (.cells #[.slice E.fA E.fs.length E.fc, .slice E.cA E.cs.length E.cc] 38)).alloc (.cells #[.string fn, .int .i64 fd, .string fv] 44)) = w1 ∧ Below w.heap.size w w1 ∧ LcG w.heap.size X E fn fv fd w1 := by
  have r0 := heap_alloc_new w (.cells #[.int .u8 X.k, .string X.r, .string X.n, .int .i64 X.d, .slice X.A X.sub.length X.c] 26)
  have r1 := heap_alloc_new (w.alloc (.cells #[.int .u8 X.k, .string X.r, .string X.n, .int .i64 X.d, .slice X.A X.sub.length X.c] 26)) (.cells #[.slice E.fA E.fs.length E.fc, .slice E.cA E.cs.length E.cc] 38)
  rw [World.size_alloc] at r1
  have r2 := heap_alloc_new ((w.alloc (.cells #[.int .u8 X.k, .string X.r, .string X.n, .int .i64 X.d, .slice X.A X.sub.length X.c] 26)).alloc (.cells #[.slice E.fA E.fs.length E.fc, .slice E.cA E.cs.length E.cc] 38)) (.cells #[.string fn, .int .i64 fd, .string fv] 44)
  rw [World.size_alloc, World.size_alloc] at r2
  have b2 := belO ((w.alloc (.cells #[.int .u8 X.k, .string X.r, .string X.n, .int .i64 X.d, .slice X.A X.sub.length X.c] 26)).alloc (.cells #[.slice E.fA E.fs.length E.fc, .slice E.cA E.cs.length E.cc] 38)) (.cells #[.string fn, .int .i64 fd, .string fv] 44)
  have b1 := btO (belO (w.alloc (.cells #[.int .u8 X.k, .string X.r, .string X.n, .int .i64 X.d, .slice X.A X.sub.length X.c] 26)) (.cells #[.slice E.fA E.fs.length E.fc, .slice E.cA E.cs.length E.cc] 38)) b2
  exact ⟨_, rfl, btO (belO w _) b1, ⟨cellO b1 (row_cell (j := 0) r0 rfl), cellO b1 (row_cell (j := 1) r0 rfl), cellO b1 (row_cell (j := 2) r0 rfl), cellO b1 (row_cell (j := 3) r0 rfl), cellO b1 (row_cell (j := 4) r0 rfl), cellO b2 (row_cell (j := 0) r1 rfl), cellO b2 (row_cell (j := 1) r1 rfl), (row_cell (j := 0) r2 rfl), (row_cell (j := 1) r2 rfl), (row_cell (j := 2) r2 rfl)⟩⟩
set_option maxRecDepth 100000 in
set_option maxHeartbeats 25600000 in
theorem local_out (ok : Prop) (X : Ex) (E : Ev) (fn fv : ByteArray) (fd : Int) (day : Int) (bx bv nx : Bool) (w : World)
    (hal : ∀ W, Below w.heap.size w W → Calls Tryz.prog 23 #[] W (BoolRO true W))
    (hgx : ∀ W, Below w.heap.size w W → Calls Tryz.prog 34 #[.agg #[.int .u8 X.k, .string X.r, .string X.n, .int .i64 X.d, .slice X.A X.sub.length X.c]] W (BoolRO bx W))
    (hgv : ∀ W, Below w.heap.size w W → Calls Tryz.prog 24 #[.agg #[.slice E.fA E.fs.length E.fc, .slice E.cA E.cs.length E.cc]] W (BoolRO bv W))
    (hnx : ok → ∀ W, Below w.heap.size w W → Calls Tryz.prog 14 #[.agg #[.int .u8 X.k, .string X.r, .string X.n, .int .i64 X.d, .slice X.A X.sub.length X.c]] W (BoolRO nx W))
    (key : (bx = true ∧ True) ∨ (bx = false ∧ bv = true) ∨ (bx = false ∧ bv = false ∧ 1000 < (fn.size : Int)) ∨ (bx = false ∧ bv = false ∧ ¬ 1000 < (fn.size : Int) ∧ 3000 < (fv.size : Int)) ∨ (ok ∧ bx = false ∧ bv = false ∧ ¬ 1000 < (fn.size : Int) ∧ ¬ 3000 < (fv.size : Int) ∧ nx = false)) :
    Calls Tryz.prog 8 #[.agg #[.int .u8 X.k, .string X.r, .string X.n, .int .i64 X.d, .slice X.A X.sub.length X.c], .int .i64 day, .agg #[.slice E.fA E.fs.length E.fc, .slice E.cA E.cs.length E.cc], .agg #[.string fn, .int .i64 fd, .string fv]] w (BoolRO true w) := by
  obtain ⟨w1, hw1, hB, hS⟩ := lc_begin w X E fn fv fd
  have HB := Lib.hid hB
  have HG := Lib.hid (fun W (hW : Below w1.heap.size w1 W) => hS.below hW)
  have Hal := Lib.hid (fun W (hW : Below w1.heap.size w1 W) => hal W (btO hB hW))
  have Hgx := Lib.hid (fun W (hW : Below w1.heap.size w1 W) => hgx W (btO hB hW))
  have Hgv := Lib.hid (fun W (hW : Below w1.heap.size w1 W) => hgv W (btO hB hW))
  have Hnx := Lib.hid (fun (o : ok) W (hW : Below w1.heap.size w1 W) => hnx o W (btO hB hW))
  have HW1 := Lib.hid (Below.refl w1.heap.size w1)
  clear hB hS hal hgx hgv hnx
  obtain ⟨x0, x1, x2, x3, x4, v0, v1, f0, f1, f2⟩ := HG.out _ HW1.out
  rcases key with ⟨rfl, -⟩ | ⟨rfl, rfl⟩ | ⟨rfl, rfl, q1⟩ | ⟨rfl, rfl, q1, q2⟩ | ⟨okh, rfl, rfl, q1, q2, rfl⟩
  all_goals (
    go_enter Tryz.func8, Tryz.ntmps8
    go_wp2_with (first
        | (go_at_call 14; have _t := HW4; ((with_reducible refine (Hnx.out okh _ HW4.out).mono ?_); rintro u w5 ⟨rfl, hb⟩; clear x0 x1 x2 x3 x4 v0 v1 f0 f1 f2; have HW5 := Lib.hid (btO HW4.out hb); obtain ⟨x0, x1, x2, x3, x4, v0, v1, f0, f1, f2⟩ := HG.out _ HW5.out; clear hb))
        | (go_at_call 24; have _t := HW3; ((with_reducible refine (Hgv.out _ HW3.out).mono ?_); rintro u w4 ⟨rfl, hb⟩; clear x0 x1 x2 x3 x4 v0 v1 f0 f1 f2; have HW4 := Lib.hid (btO HW3.out hb); obtain ⟨x0, x1, x2, x3, x4, v0, v1, f0, f1, f2⟩ := HG.out _ HW4.out; clear hb))
        | (go_at_call 34; have _t := HW2; ((with_reducible refine (Hgx.out _ HW2.out).mono ?_); rintro u w3 ⟨rfl, hb⟩; clear x0 x1 x2 x3 x4 v0 v1 f0 f1 f2; have HW3 := Lib.hid (btO HW2.out hb); obtain ⟨x0, x1, x2, x3, x4, v0, v1, f0, f1, f2⟩ := HG.out _ HW3.out; clear hb))
        | (go_at_call 23; have _t := HW1; ((with_reducible refine (Hal.out _ HW1.out).mono ?_); rintro u w2 ⟨rfl, hb⟩; clear x0 x1 x2 x3 x4 v0 v1 f0 f1 f2; have HW2 := Lib.hid (btO HW1.out hb); obtain ⟨x0, x1, x2, x3, x4, v0, v1, f0, f1, f2⟩ := HG.out _ HW2.out; clear hb)))
    go_ret
    exact ⟨rfl, btO HB.out (by first | exact HW5.out | exact HW4.out | exact HW3.out)⟩)
set_option maxRecDepth 100000 in
set_option maxHeartbeats 25600000 in
theorem local_far (X : Ex) (E : Ev) (fn fv : ByteArray) (fd : Int) (day : Int) (a : ByteArray) (e h : Int) (m : Bool) (aL : List Fx) (aC : List Cx) (w : World)
    (hal : ∀ W, Below w.heap.size w W → Calls Tryz.prog 23 #[] W (BoolRO true W))
    (hgx : ∀ W, Below w.heap.size w W → Calls Tryz.prog 34 #[.agg #[.int .u8 X.k, .string X.r, .string X.n, .int .i64 X.d, .slice X.A X.sub.length X.c]] W (BoolRO false W))
    (hgv : ∀ W, Below w.heap.size w W → Calls Tryz.prog 24 #[.agg #[.slice E.fA E.fs.length E.fc, .slice E.cA E.cs.length E.cc]] W (BoolRO false W))
    (hnx : ∀ W, Below w.heap.size w W → Calls Tryz.prog 14 #[.agg #[.int .u8 X.k, .string X.r, .string X.n, .int .i64 X.d, .slice X.A X.sub.length X.c]] W (BoolRO true W))
    (hvx : ∀ W, Below w.heap.size w W → Calls Tryz.prog 17 #[.agg #[.int .u8 X.k, .string X.r, .string X.n, .int .i64 X.d, .slice X.A X.sub.length X.c], .int .i64 day, .agg #[.slice E.fA E.fs.length E.fc, .slice E.cA E.cs.length E.cc]] W (StE a e W))
    (hfx : ∀ W, Below w.heap.size w W → Calls Tryz.prog 43 #[.agg #[.int .u8 X.k, .string X.r, .string X.n, .int .i64 X.d, .slice X.A X.sub.length X.c], .int .i64 day] W (FixR day X W))
    (hvf : 0 ≤ day → day ≤ 99999 → ∀ T' : Ex, T'.er = X.fx day → ∀ W, Below w.heap.size w W → T'.In W → Calls Tryz.prog 17 #[T'.val, .int .i64 day, .agg #[.slice E.fA E.fs.length E.fc, .slice E.cA E.cs.length E.cc]] W (StE a e W))
    (hput : ∀ W, Below w.heap.size w W → Calls Tryz.prog 19 #[.agg #[.slice E.fA E.fs.length E.fc, .slice E.cA E.cs.length E.cc], .agg #[.string fn, .int .i64 fd, .string fv]] W (EvP aL aC h W))
    (hmen : ∀ W, Below w.heap.size w W → Calls Tryz.prog 44 #[.agg #[.int .u8 X.k, .string X.r, .string X.n, .int .i64 X.d, .slice X.A X.sub.length X.c], .string fn] W (BoolRO m W))
    (hv2 : h = 0 → m = false → ∀ A c A2 c2 W, Below w.heap.size w W → Ev.In W ⟨A, aL, c, A2, aC, c2⟩ → Calls Tryz.prog 17 #[.agg #[.int .u8 X.k, .string X.r, .string X.n, .int .i64 X.d, .slice X.A X.sub.length X.c], .int .i64 day, .agg #[.slice A aL.length c, .slice A2 aC.length c2]] W (StE a e W))
    (q1 : ¬ 1000 < (fn.size : Int)) (q2 : ¬ 3000 < (fv.size : Int)) (hd : ¬ 0 ≤ day ∨ (0 ≤ day ∧ ¬ day ≤ 99999)) (key : ((h != 0) = true ∧ True) ∨ (h = 0 ∧ m = true) ∨ (h = 0 ∧ m = false)) :
    Calls Tryz.prog 8 #[.agg #[.int .u8 X.k, .string X.r, .string X.n, .int .i64 X.d, .slice X.A X.sub.length X.c], .int .i64 day, .agg #[.slice E.fA E.fs.length E.fc, .slice E.cA E.cs.length E.cc], .agg #[.string fn, .int .i64 fd, .string fv]] w (BoolRO true w) := by
  obtain ⟨w1, hw1, hB, hS⟩ := lc_begin w X E fn fv fd
  have HB := Lib.hid hB
  have HG := Lib.hid (fun W (hW : Below w1.heap.size w1 W) => hS.below hW)
  have Hal := Lib.hid (fun W (hW : Below w1.heap.size w1 W) => hal W (btO hB hW))
  have Hgx := Lib.hid (fun W (hW : Below w1.heap.size w1 W) => hgx W (btO hB hW))
  have Hgv := Lib.hid (fun W (hW : Below w1.heap.size w1 W) => hgv W (btO hB hW))
  have Hnx := Lib.hid (fun W (hW : Below w1.heap.size w1 W) => hnx W (btO hB hW))
  have Hvx := Lib.hid (fun W (hW : Below w1.heap.size w1 W) => hvx W (btO hB hW))
  have Hfx := Lib.hid (fun W (hW : Below w1.heap.size w1 W) => hfx W (btO hB hW))
  have Hput := Lib.hid (fun W (hW : Below w1.heap.size w1 W) => hput W (btO hB hW))
  have Hmen := Lib.hid (fun W (hW : Below w1.heap.size w1 W) => hmen W (btO hB hW))
  have HW1 := Lib.hid (Below.refl w1.heap.size w1)
  have Hvf := Lib.hid (fun h0 h1 T' he W (hW : Below w1.heap.size w1 W) => hvf h0 h1 T' he W (btO hB hW))
  have Hv2 := Lib.hid (fun h0 h1 A c A2 c2 W (hW : Below w1.heap.size w1 W) => hv2 h0 h1 A c A2 c2 W (btO hB hW))
  clear hB hS hvf hv2 hal hgx hgv hnx hvx hfx hput hmen
  obtain ⟨x0, x1, x2, x3, x4, v0, v1, f0, f1, f2⟩ := HG.out _ HW1.out
  rcases hd with hd | ⟨hd, hd2⟩
  all_goals (
    rcases key with ⟨hq, -⟩ | ⟨rfl, rfl⟩ | ⟨rfl, rfl⟩
    all_goals (
      go_enter Tryz.func8, Tryz.ntmps8
      go_wp2_with (first
          | (go_at_call 17; have _t := HW12; ((with_reducible refine (Hv2.out (by first | exact trivial | rfl) (by first | exact trivial | rfl) _ _ _ _ _ HW12.out HI12.out).mono ?_); rintro u w13 ⟨rfl, hb⟩; have HW13 := Lib.hid (btO HW12.out hb); clear hb))
          | (go_at_call 44; have _t := HW11; ((with_reducible refine (Hmen.out _ (btO HW11.out (belO _ _))).mono ?_); rintro u w12 ⟨rfl, hb⟩; clear x0 x1 x2 x3 x4 v0 v1 f0 f1 f2 p0 p1; have HW12 := Lib.hid (btO (btO HW11.out (belO w11 (.cells #[.slice aA aL.length ac, .slice aB aC.length ak] 38))) hb); have HI12 := Lib.hid ((HI11.out.below (belO w11 (.cells #[.slice aA aL.length ac, .slice aB aC.length ak] 38))).below hb); obtain ⟨x0, x1, x2, x3, x4, v0, v1, f0, f1, f2⟩ := HG.out _ HW12.out; have p0 := cellO hb (row_cell (j := 0) HR.out rfl); have p1 := cellO hb (row_cell (j := 1) HR.out rfl); clear hb))
          | (go_at_call 19; have _t := HW6; ((with_reducible refine (Hput.out _ HW6.out).mono ?_); rintro u w11 ⟨aA, ac, aB, ak, rfl, hi, hk, hk2, hb⟩; clear x0 x1 x2 x3 x4 v0 v1 f0 f1 f2; have HW11 := Lib.hid (btO HW6.out hb); have HI11 := Lib.hid hi; have HR := Lib.hid (heap_alloc_new w11 (.cells #[.slice aA aL.length ac, .slice aB aC.length ak] 38)); obtain ⟨x0, x1, x2, x3, x4, v0, v1, f0, f1, f2⟩ := HG.out _ (btO HW11.out (belO w11 (.cells #[.slice aA aL.length ac, .slice aB aC.length ak] 38))); have p0 := row_cell (j := 0) HR.out rfl; have p1 := row_cell (j := 1) HR.out rfl; clear hi hk hk2 hb))
          | (go_at_call 17; have _t := HW5; ((with_reducible refine (Hvx.out _ HW5.out).mono ?_); rintro u w6 ⟨rfl, hb⟩; clear x0 x1 x2 x3 x4 v0 v1 f0 f1 f2; have HW6 := Lib.hid (btO HW5.out hb); obtain ⟨x0, x1, x2, x3, x4, v0, v1, f0, f1, f2⟩ := HG.out _ HW6.out; clear hb))
          | (go_at_call 14; have _t := HW4; ((with_reducible refine (Hnx.out _ HW4.out).mono ?_); rintro u w5 ⟨rfl, hb⟩; clear x0 x1 x2 x3 x4 v0 v1 f0 f1 f2; have HW5 := Lib.hid (btO HW4.out hb); obtain ⟨x0, x1, x2, x3, x4, v0, v1, f0, f1, f2⟩ := HG.out _ HW5.out; clear hb))
          | (go_at_call 24; have _t := HW3; ((with_reducible refine (Hgv.out _ HW3.out).mono ?_); rintro u w4 ⟨rfl, hb⟩; clear x0 x1 x2 x3 x4 v0 v1 f0 f1 f2; have HW4 := Lib.hid (btO HW3.out hb); obtain ⟨x0, x1, x2, x3, x4, v0, v1, f0, f1, f2⟩ := HG.out _ HW4.out; clear hb))
          | (go_at_call 34; have _t := HW2; ((with_reducible refine (Hgx.out _ HW2.out).mono ?_); rintro u w3 ⟨rfl, hb⟩; clear x0 x1 x2 x3 x4 v0 v1 f0 f1 f2; have HW3 := Lib.hid (btO HW2.out hb); obtain ⟨x0, x1, x2, x3, x4, v0, v1, f0, f1, f2⟩ := HG.out _ HW3.out; clear hb))
          | (go_at_call 23; have _t := HW1; ((with_reducible refine (Hal.out _ HW1.out).mono ?_); rintro u w2 ⟨rfl, hb⟩; clear x0 x1 x2 x3 x4 v0 v1 f0 f1 f2; have HW2 := Lib.hid (btO HW1.out hb); obtain ⟨x0, x1, x2, x3, x4, v0, v1, f0, f1, f2⟩ := HG.out _ HW2.out; clear hb)))
      go_ret
      exact ⟨rfl, btO HB.out (by first | exact HW13.out | exact HW12.out | exact btO HW11.out (belO _ _))⟩))
set_option maxRecDepth 100000 in
set_option maxHeartbeats 25600000 in
theorem local_day (X : Ex) (E : Ev) (fn fv : ByteArray) (fd : Int) (day : Int) (a : ByteArray) (e h : Int) (m : Bool) (aL : List Fx) (aC : List Cx) (w : World)
    (hal : ∀ W, Below w.heap.size w W → Calls Tryz.prog 23 #[] W (BoolRO true W))
    (hgx : ∀ W, Below w.heap.size w W → Calls Tryz.prog 34 #[.agg #[.int .u8 X.k, .string X.r, .string X.n, .int .i64 X.d, .slice X.A X.sub.length X.c]] W (BoolRO false W))
    (hgv : ∀ W, Below w.heap.size w W → Calls Tryz.prog 24 #[.agg #[.slice E.fA E.fs.length E.fc, .slice E.cA E.cs.length E.cc]] W (BoolRO false W))
    (hnx : ∀ W, Below w.heap.size w W → Calls Tryz.prog 14 #[.agg #[.int .u8 X.k, .string X.r, .string X.n, .int .i64 X.d, .slice X.A X.sub.length X.c]] W (BoolRO true W))
    (hvx : ∀ W, Below w.heap.size w W → Calls Tryz.prog 17 #[.agg #[.int .u8 X.k, .string X.r, .string X.n, .int .i64 X.d, .slice X.A X.sub.length X.c], .int .i64 day, .agg #[.slice E.fA E.fs.length E.fc, .slice E.cA E.cs.length E.cc]] W (StE a e W))
    (hfx : ∀ W, Below w.heap.size w W → Calls Tryz.prog 43 #[.agg #[.int .u8 X.k, .string X.r, .string X.n, .int .i64 X.d, .slice X.A X.sub.length X.c], .int .i64 day] W (FixR day X W))
    (hvf : 0 ≤ day → day ≤ 99999 → ∀ T' : Ex, T'.er = X.fx day → ∀ W, Below w.heap.size w W → T'.In W → Calls Tryz.prog 17 #[T'.val, .int .i64 day, .agg #[.slice E.fA E.fs.length E.fc, .slice E.cA E.cs.length E.cc]] W (StE a e W))
    (hput : ∀ W, Below w.heap.size w W → Calls Tryz.prog 19 #[.agg #[.slice E.fA E.fs.length E.fc, .slice E.cA E.cs.length E.cc], .agg #[.string fn, .int .i64 fd, .string fv]] W (EvP aL aC h W))
    (hmen : ∀ W, Below w.heap.size w W → Calls Tryz.prog 44 #[.agg #[.int .u8 X.k, .string X.r, .string X.n, .int .i64 X.d, .slice X.A X.sub.length X.c], .string fn] W (BoolRO m W))
    (hv2 : h = 0 → m = false → ∀ A c A2 c2 W, Below w.heap.size w W → Ev.In W ⟨A, aL, c, A2, aC, c2⟩ → Calls Tryz.prog 17 #[.agg #[.int .u8 X.k, .string X.r, .string X.n, .int .i64 X.d, .slice X.A X.sub.length X.c], .int .i64 day, .agg #[.slice A aL.length c, .slice A2 aC.length c2]] W (StE a e W))
    (q1 : ¬ 1000 < (fn.size : Int)) (q2 : ¬ 3000 < (fv.size : Int)) (hd0 : 0 ≤ day) (hd1 : day ≤ 99999) (key : ((h != 0) = true ∧ True) ∨ (h = 0 ∧ m = true) ∨ (h = 0 ∧ m = false)) :
    Calls Tryz.prog 8 #[.agg #[.int .u8 X.k, .string X.r, .string X.n, .int .i64 X.d, .slice X.A X.sub.length X.c], .int .i64 day, .agg #[.slice E.fA E.fs.length E.fc, .slice E.cA E.cs.length E.cc], .agg #[.string fn, .int .i64 fd, .string fv]] w (BoolRO true w) := by
  obtain ⟨w1, hw1, hB, hS⟩ := lc_begin w X E fn fv fd
  have HB := Lib.hid hB
  have HG := Lib.hid (fun W (hW : Below w1.heap.size w1 W) => hS.below hW)
  have Hal := Lib.hid (fun W (hW : Below w1.heap.size w1 W) => hal W (btO hB hW))
  have Hgx := Lib.hid (fun W (hW : Below w1.heap.size w1 W) => hgx W (btO hB hW))
  have Hgv := Lib.hid (fun W (hW : Below w1.heap.size w1 W) => hgv W (btO hB hW))
  have Hnx := Lib.hid (fun W (hW : Below w1.heap.size w1 W) => hnx W (btO hB hW))
  have Hvx := Lib.hid (fun W (hW : Below w1.heap.size w1 W) => hvx W (btO hB hW))
  have Hfx := Lib.hid (fun W (hW : Below w1.heap.size w1 W) => hfx W (btO hB hW))
  have Hput := Lib.hid (fun W (hW : Below w1.heap.size w1 W) => hput W (btO hB hW))
  have Hmen := Lib.hid (fun W (hW : Below w1.heap.size w1 W) => hmen W (btO hB hW))
  have HW1 := Lib.hid (Below.refl w1.heap.size w1)
  have Hvf := Lib.hid (fun h0 h1 T' he W (hW : Below w1.heap.size w1 W) => hvf h0 h1 T' he W (btO hB hW))
  have Hv2 := Lib.hid (fun h0 h1 A c A2 c2 W (hW : Below w1.heap.size w1 W) => hv2 h0 h1 A c A2 c2 W (btO hB hW))
  clear hB hS hvf hv2 hal hgx hgv hnx hvx hfx hput hmen
  obtain ⟨x0, x1, x2, x3, x4, v0, v1, f0, f1, f2⟩ := HG.out _ HW1.out
  rcases key with ⟨hq, -⟩ | ⟨rfl, rfl⟩ | ⟨rfl, rfl⟩
  all_goals (
      go_enter Tryz.func8, Tryz.ntmps8
      go_wp2_with (first
          | (go_at_call 17; have _t := HW5; ((with_reducible refine (Hvx.out _ HW5.out).mono ?_); rintro u w6 ⟨rfl, hb⟩; clear x0 x1 x2 x3 x4 v0 v1 f0 f1 f2; have HW6 := Lib.hid (btO HW5.out hb); obtain ⟨x0, x1, x2, x3, x4, v0, v1, f0, f1, f2⟩ := HG.out _ HW6.out; clear hb))
          | (go_at_call 14; have _t := HW4; ((with_reducible refine (Hnx.out _ HW4.out).mono ?_); rintro u w5 ⟨rfl, hb⟩; clear x0 x1 x2 x3 x4 v0 v1 f0 f1 f2; have HW5 := Lib.hid (btO HW4.out hb); obtain ⟨x0, x1, x2, x3, x4, v0, v1, f0, f1, f2⟩ := HG.out _ HW5.out; clear hb))
          | (go_at_call 24; have _t := HW3; ((with_reducible refine (Hgv.out _ HW3.out).mono ?_); rintro u w4 ⟨rfl, hb⟩; clear x0 x1 x2 x3 x4 v0 v1 f0 f1 f2; have HW4 := Lib.hid (btO HW3.out hb); obtain ⟨x0, x1, x2, x3, x4, v0, v1, f0, f1, f2⟩ := HG.out _ HW4.out; clear hb))
          | (go_at_call 34; have _t := HW2; ((with_reducible refine (Hgx.out _ HW2.out).mono ?_); rintro u w3 ⟨rfl, hb⟩; clear x0 x1 x2 x3 x4 v0 v1 f0 f1 f2; have HW3 := Lib.hid (btO HW2.out hb); obtain ⟨x0, x1, x2, x3, x4, v0, v1, f0, f1, f2⟩ := HG.out _ HW3.out; clear hb))
          | (go_at_call 23; have _t := HW1; ((with_reducible refine (Hal.out _ HW1.out).mono ?_); rintro u w2 ⟨rfl, hb⟩; clear x0 x1 x2 x3 x4 v0 v1 f0 f1 f2; have HW2 := Lib.hid (btO HW1.out hb); obtain ⟨x0, x1, x2, x3, x4, v0, v1, f0, f1, f2⟩ := HG.out _ HW2.out; clear hb)))
      have BR := (Below.drew HW6.out)
      go_region_held3 (fun w' => w'.cell? ⟨w.heap.size, 0, none⟩ = some (.int .u8 X.k) ∧ w'.cell? ⟨w.heap.size, 1, none⟩ = some (.string X.r) ∧ w'.cell? ⟨w.heap.size, 2, none⟩ = some (.string X.n) ∧ w'.cell? ⟨w.heap.size, 3, none⟩ = some (.int .i64 X.d) ∧ w'.cell? ⟨w.heap.size, 4, none⟩ = some (.slice X.A X.sub.length X.c) ∧ w'.cell? ⟨w.heap.size + 1, 0, none⟩ = some (.slice E.fA E.fs.length E.fc) ∧ w'.cell? ⟨w.heap.size + 1, 1, none⟩ = some (.slice E.cA E.cs.length E.cc))
        (((try go_split_ands); (and_intros) <;> first | assumption | (go_keep; done)))
        (first
          | (go_split_ands; go_at_call 43; refine (Hfx.out _ BR).mono ?_; rintro u w7 ⟨T, rfl, hi, he, -, hb⟩; have B7 := btO BR hb; have HT7 := Lib.hid hi; have HV7 := Lib.hid (Hvf.out hd0 hd1 T he); obtain ⟨i_x0, i_x1, i_x2, i_x3, i_x4, i_v0, i_v1, i_f0, i_f1, i_f2⟩ := HG.out _ B7; clear hi he hb)
          | (go_split_ands; go_at_call 17; refine (HV7.out _ B7 HT7.out).mono ?_; rintro u w8 ⟨rfl, hb⟩; have B8 := btO B7 hb; obtain ⟨j_x0, j_x1, j_x2, j_x3, j_x4, j_v0, j_v1, j_f0, j_f1, j_f2⟩ := HG.out _ B8; clear hb))
      all_goals (
        have HW8 := Lib.hid B8
        go_wp2_with (first
            | (go_at_call 17; have _t := HW12; ((with_reducible refine (Hv2.out (by first | exact trivial | rfl) (by first | exact trivial | rfl) _ _ _ _ _ HW12.out HI12.out).mono ?_); rintro u w13 ⟨rfl, hb⟩; have HW13 := Lib.hid (btO HW12.out hb); clear hb))
            | (go_at_call 44; have _t := HW11; ((with_reducible refine (Hmen.out _ (btO HW11.out (belO _ _))).mono ?_); rintro u w12 ⟨rfl, hb⟩; clear x0 x1 x2 x3 x4 v0 v1 f0 f1 f2 p0 p1; have HW12 := Lib.hid (btO (btO HW11.out (belO w11 (.cells #[.slice aA aL.length ac, .slice aB aC.length ak] 38))) hb); have HI12 := Lib.hid ((HI11.out.below (belO w11 (.cells #[.slice aA aL.length ac, .slice aB aC.length ak] 38))).below hb); obtain ⟨x0, x1, x2, x3, x4, v0, v1, f0, f1, f2⟩ := HG.out _ HW12.out; have p0 := cellO hb (row_cell (j := 0) HR.out rfl); have p1 := cellO hb (row_cell (j := 1) HR.out rfl); clear hb))
            | (go_at_call 19; have _t := HW8; ((with_reducible refine (Hput.out _ HW8.out).mono ?_); rintro u w11 ⟨aA, ac, aB, ak, rfl, hi, hk, hk2, hb⟩; have HW11 := Lib.hid (btO HW8.out hb); have HI11 := Lib.hid hi; have HR := Lib.hid (heap_alloc_new w11 (.cells #[.slice aA aL.length ac, .slice aB aC.length ak] 38)); obtain ⟨x0, x1, x2, x3, x4, v0, v1, f0, f1, f2⟩ := HG.out _ (btO HW11.out (belO w11 (.cells #[.slice aA aL.length ac, .slice aB aC.length ak] 38))); have p0 := row_cell (j := 0) HR.out rfl; have p1 := row_cell (j := 1) HR.out rfl; clear hi hk hk2 hb)))
        go_ret
        exact ⟨rfl, btO HB.out (by first | exact HW13.out | exact HW12.out | exact btO HW11.out (belO _ _))⟩))
end Go.Proofs.YtbfimfjhdbpenaaGreatDoor
/- The law ObservableLocal. -/
namespace Go.Proofs.YtbfimfjhdbpenaaGreatDoor
open Go Go.RowKit
theorem putL_inc {fs : List Fx} {cs : List Cx} {f : Fx} (h : putFE fs cs f = 0) : envE fs cs = 0 ∧ Inc Fx.key fs := ⟨(putFE_cases h).1, (inc_of (envE_zero (putFE_cases h).1).2.2.1).1⟩
theorem valN_put {t : Ex} {day : Int} {fs : List Fx} {cs : List Cx} {f : Fx} (h : putFE fs cs f = 0) (hm : t.men f.1 = false) : valN t day (putFL fs cs f) (putFC fs cs f) = valN t day fs cs := by
  obtain ⟨h1, h2⟩ := putL_inc h
  have h3 := put_env h
  obtain ⟨p1, p2⟩ := put_is h
  have h4 : askE t 1 day (putFL fs cs f) (putFC fs cs f) = askE t 1 day fs cs := by
    unfold askE
    rw [h1, h3]
  unfold valN
  rw [h4, p1, Ex.ev_other h2 f day t hm]
section
variable (X : Ex) (E : Ev) (fn fv : ByteArray) (fd day : Int) (w : World) (hX : X.In w) (hE : E.In w) (kF : CapR E.fA E.fs.length E.fc) (kC : CapR E.cA E.cs.length E.cc) (hv : VarR w)
  (z1 : fn.size ≤ 140737488351232) (z2 : fv.size ≤ 140737488351232) (d0 : -9223372036854775808 ≤ day) (d1 : day ≤ 9223372036854775807)
include hX hE kF kC hv z1 z2 d0 d1
theorem local_law8 : Calls Tryz.prog 8 #[X.val, .int .i64 day, E.val, .agg #[.string fn, .int .i64 fd, .string fv]] w (BoolRO true w) := by
  have hal : ∀ W, Below w.heap.size w W → Calls Tryz.prog 23 #[] W (BoolRO true W) := fun W hW => alive_any8 W (hv.below hW)
  have hgx : ∀ W, Below w.heap.size w W → Calls Tryz.prog 34 #[X.val] W (BoolRO X.grt W) := fun W hW => great_anyO X W (hX.below hW)
  have hgv : ∀ W, Below w.heap.size w W → Calls Tryz.prog 24 #[E.val] W (BoolRO E.grt W) := fun W hW => greatEnv_any E W (hE.below hW)
  have no : ∀ {P : Prop}, False → P := fun h => h.elim
  cases gx : X.grt
  · obtain ⟨x1, -, x3⟩ := Ex.grt_not gx
    have hnx : True → ∀ W, Below w.heap.size w W → Calls Tryz.prog 14 #[X.val] W (BoolRO (X.isB 1) W) := fun _ W hW => pnumber_any X W (hX.below hW) x3 (hv.below hW)
    rw [gx] at hgx
    cases gv : E.grt
    · rw [gv] at hgv
      by_cases q1 : 1000 < (fn.size : Int)
      · exact local_out True X E fn fv fd day false false _ w hal hgx hgv hnx (.inr (.inr (.inl (⟨rfl, rfl, q1⟩))))
      by_cases q2 : 3000 < (fv.size : Int)
      · exact local_out True X E fn fv fd day false false _ w hal hgx hgv hnx (.inr (.inr (.inr (.inl (⟨rfl, rfl, q1, q2⟩)))))
      cases n1 : X.isB 1
      · exact local_out True X E fn fv fd day false false _ w hal hgx hgv hnx (.inr (.inr (.inr (.inr (⟨trivial, rfl, rfl, q1, q2, n1⟩)))))
      rw [n1] at hnx
      obtain ⟨-, -, s1, s2⟩ := Ev.grt_not gv
      have hsf : ∀ f ∈ E.fs, f.2.2.size ≤ 1048576 := fun f hf => by have := (s1 f hf).2; omega
      have hF : ShF E.fs := fun f hf => ⟨by have := (s1 f hf).1; omega, by have := (s1 f hf).2; omega⟩
      have hC : ShC E.cs := fun c hc => ⟨by have := (s2 c hc).1; omega, by have := (s2 c hc).2; omega⟩
      have hvx : ∀ W, Below w.heap.size w W → Calls Tryz.prog 17 #[X.val, .int .i64 day, E.val] W (StE (valN X day E.fs E.cs).1 (valN X day E.fs E.cs).2 W) := fun W hW => pvalue_any X E day W (hX.below hW) ⟨hE.below hW, hv.below hW⟩ x1 x3 hsf
      have hfx : ∀ W, Below w.heap.size w W → Calls Tryz.prog 43 #[X.val, .int .i64 day] W (FixR day X W) := fun W hW => fixed_any8 day d0 d1 X W (hX.below hW) x1
      have hvf : 0 ≤ day → day ≤ 99999 → ∀ T' : Ex, T'.er = X.fx day → ∀ W, Below w.heap.size w W → T'.In W → Calls Tryz.prog 17 #[T'.val, .int .i64 day, E.val] W (StE (valN X day E.fs E.cs).1 (valN X day E.fs E.cs).2 W) := fun h0 h1 T' he W hW hT => by
        rw [← valN_fx E.fs E.cs he (by unfold dayO; rw [decide_eq_true h0, decide_eq_true h1]; rfl) n1]
        exact pvalue_any T' E day W hT ⟨hE.below hW, hv.below hW⟩ (by rw [er_siz he]; exact x1) (by rw [er_byt he]; exact x3) hsf
      have hput : ∀ W, Below w.heap.size w W → Calls Tryz.prog 19 #[E.val, .agg #[.string fn, .int .i64 fd, .string fv]] W (EvP (putFL E.fs E.cs (fn, fd, fv)) (putFC E.fs E.cs (fn, fd, fv)) (putFE E.fs E.cs (fn, fd, fv)) W) := fun W hW => call_put hF hC fn fv fd z1 (by omega) W (hv.below hW) _ _ _ _ ⟨hE.below hW, kF, kC⟩
      have hmen : ∀ W, Below w.heap.size w W → Calls Tryz.prog 44 #[X.val, .string fn] W (BoolRO (X.men fn) W) := fun W hW => mentions_any fn X W (hX.below hW)
      have hv2 : (putFE E.fs E.cs (fn, fd, fv)) = 0 → X.men fn = false → ∀ A c A2 c2 W, Below w.heap.size w W → Ev.In W ⟨A, (putFL E.fs E.cs (fn, fd, fv)), c, A2, (putFC E.fs E.cs (fn, fd, fv)), c2⟩ → Calls Tryz.prog 17 #[X.val, .int .i64 day, .agg #[.slice A (putFL E.fs E.cs (fn, fd, fv)).length c, .slice A2 (putFC E.fs E.cs (fn, fd, fv)).length c2]] W (StE (valN X day E.fs E.cs).1 (valN X day E.fs E.cs).2 W) := fun h0 h1 A c A2 c2 W hW hI => by
        have := pvalue_any X ⟨A, _, c, A2, _, c2⟩ day W (hX.below hW) ⟨hI, hv.below hW⟩ x1 x3 (fun f hf => (hF.put (cs := E.cs) (f := (fn, fd, fv)) z1 (by show fv.size ≤ _; omega) f hf).2)
        rw [show valN X day (putFL E.fs E.cs (fn, fd, fv)) (putFC E.fs E.cs (fn, fd, fv)) = valN X day E.fs E.cs from valN_put h0 h1] at this
        exact this
      have key : (((putFE E.fs E.cs (fn, fd, fv)) != 0) = true ∧ True) ∨ ((putFE E.fs E.cs (fn, fd, fv)) = 0 ∧ X.men fn = true) ∨ ((putFE E.fs E.cs (fn, fd, fv)) = 0 ∧ X.men fn = false) := by
        by_cases h : (putFE E.fs E.cs (fn, fd, fv)) = 0
        · cases hm : X.men fn
          · exact .inr (.inr ⟨h, rfl⟩)
          · exact .inr (.inl ⟨h, rfl⟩)
        · exact .inl ⟨ne_decO h, trivial⟩
      by_cases h0 : 0 ≤ day
      · by_cases h1 : day ≤ 99999
        · exact local_day X E fn fv fd day _ _ _ _ _ _ w hal hgx hgv (hnx trivial) hvx hfx hvf hput hmen hv2 q1 q2 h0 h1 key
        · exact local_far X E fn fv fd day _ _ _ _ _ _ w hal hgx hgv (hnx trivial) hvx hfx hvf hput hmen hv2 q1 q2 (.inr ⟨h0, h1⟩) key
      · exact local_far X E fn fv fd day _ _ _ _ _ _ w hal hgx hgv (hnx trivial) hvx hfx hvf hput hmen hv2 q1 q2 (.inl h0) key
    · rw [gv] at hgv
      exact local_out True X E fn fv fd day false true _ w hal hgx hgv hnx (.inr (.inl (⟨rfl, rfl⟩)))
  · rw [gx] at hgx
    exact local_out False X E fn fv fd day true _ false w hal hgx hgv no (.inl (⟨rfl, trivial⟩))
end
end Go.Proofs.YtbfimfjhdbpenaaGreatDoor

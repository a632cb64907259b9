/- Joined: CnX, CnS. -/
import Derived.Test.YtalejbabhjlehaaGreatDoorPk21
import Derived.Test.YtalejbabhjlehaaGreatDoorPk27
/- Layer 9: the program's isZero and Check. -/
namespace Go.Proofs.YtalejbabhjlehaaGreatDoor
open Go Go.RowKit Go.Shelf Go.BigFrame
attribute [local go_sem] Oper.semAt_some
def zeE : Ex := .mk 0 ⟨#[]⟩ ⟨#[]⟩ 0 none 0 []
theorem zeE_in (w : World) : zeE.In w := by
  unfold zeE
  rw [Ex.in_mk]
  exact ⟨⟨by show (0 : Int) ≤ 0; omega, by show (0 : Int) ≤ 255; omega, by show -9223372036854775808 ≤ (0 : Int); omega, by show (0 : Int) ≤ 9223372036854775807; omega, Nat.zero_le _, Nat.zero_le _, Nat.le_refl _, Nat.zero_le _, fun _ => rfl⟩, fun j hj => by simp at hj⟩
theorem bar_same (T : Ex) : sameB T zeE = T.bar := by
  obtain ⟨k, r, n, d, A, c, s⟩ := T
  have h1 : Ex.bar (.mk k r n d A c s) = decide (k = 0 ∧ r = ⟨#[]⟩ ∧ n = ⟨#[]⟩ ∧ d = 0 ∧ s.length = 0) := rfl
  rw [h1]
  by_cases h : k = 0 ∧ r = ⟨#[]⟩ ∧ n = ⟨#[]⟩ ∧ d = 0 ∧ s.length = 0
  · rw [decide_eq_true h]
    obtain ⟨h1, h2, h3, h4, h5⟩ := h
    exact sameB_t (er_iff.2 ⟨h1, h2, h3, h4, by rw [List.length_eq_zero_iff.1 h5]⟩)
  · rw [decide_eq_false h]
    refine sameB_f fun e => h ?_
    obtain ⟨h1, h2, h3, h4, h5⟩ := er_iff.1 e
    exact ⟨h1, h2, h3, h4, by simpa using congrArg List.length h5⟩
set_option maxRecDepth 100000 in
set_option maxHeartbeats 1000000 in
theorem isZero_any (T : Ex) (w : World) (hin : T.In w) : Calls Tryz.prog 82 #[T.val] w (BoolRO T.bar w) := by
  have HB1 := Lib.hid (belO w (.cells #[.int .u8 T.k, .string T.r, .string T.n, .int .i64 T.d, .slice T.A T.sub.length T.c] 29))
  have hx := Ex.Box.new w T 29
  obtain ⟨c0, c1, c2, c3, c4⟩ := hx
  have HQ := Lib.hid (show Calls Tryz.prog 56 #[.agg #[.int .u8 T.k, .string T.r, .string T.n, .int .i64 T.d, .slice T.A T.sub.length T.c], .agg #[.int .u8 0, .string ⟨#[]⟩, .string ⟨#[]⟩, .int .i64 0, .slice none 0 0]] (w.alloc (.cells #[.int .u8 T.k, .string T.r, .string T.n, .int .i64 T.d, .slice T.A T.sub.length T.c] 29)) (BoolRO T.bar (w.alloc (.cells #[.int .u8 T.k, .string T.r, .string T.n, .int .i64 T.d, .slice T.A T.sub.length T.c] 29))) by
    have := psame8_any T zeE (w.alloc (.cells #[.int .u8 T.k, .string T.r, .string T.n, .int .i64 T.d, .slice T.A T.sub.length T.c] 29)) (hin.below HB1.out) (zeE_in _)
    rw [bar_same] at this
    exact this)
  clear hin
  show Calls Tryz.prog 82 #[.agg #[.int .u8 T.k, .string T.r, .string T.n, .int .i64 T.d, .slice T.A T.sub.length T.c]] w _
  go_enter Tryz.func82, Tryz.ntmps82
  go_wp2_with (go_at_call 56; ((with_reducible refine HQ.out.mono ?_); rintro e w2 ⟨rfl, hb⟩; have HB2 := Lib.hid (btO HB1.out hb); clear hb))
  go_ret
  exact ⟨rfl, HB2.out⟩
theorem zeroOk_any (T : Ct) : ZeroOk T := fun u _ W h => isZero_any u.x W h
def Ct.chk (T : Ct) : Int := if T.many = true then 4 else if T.all.all Ct.frm = true then 0 else 8
def Ct.Byt (T : Ct) : Prop := ∀ u ∈ T.all, u.x.byt ≤ 12000
set_option maxRecDepth 100000 in
set_option maxHeartbeats 4000000 in
theorem ccheck_any (T : Ct) (w : World) (hT : T.In w) (hz : T.siz ≤ 900000) (hby : T.Byt) (hv : VarR w) :
    Calls Tryz.prog 11 #[T.val] w (IntRO T.chk w) := by
  refine (callsIn_wide (n := 3)).1 ?_
  have HF := Lib.hid (fun W (hW : Below w.heap.size w W) => cfits_any T W (hT.below hW) hz (zeroOk_any T))
  have HL := Lib.hid (contracts_any T)
  have HT := Lib.hid hT
  have HV := Lib.hid hv
  have HBY := Lib.hid hby
  have bx := Ct.Box.new w T 32
  have hb0 := belO w (.cells #[.int .u8 T.k, .string T.f, .string T.t, .string T.n, .int .u8 T.x.k, .string T.x.r, .string T.x.n, .int .i64 T.x.d, .slice T.x.A T.x.sub.length T.x.c, .int .i64 T.d, .slice T.DA T.dl.length T.dc, .slice T.A T.sub.length T.c] 32)
  have hb1 : Below w.heap.size w ((w.alloc (.cells #[.int .u8 T.k, .string T.f, .string T.t, .string T.n, .int .u8 T.x.k, .string T.x.r, .string T.x.n, .int .i64 T.x.d, .slice T.x.A T.x.sub.length T.x.c, .int .i64 T.d, .slice T.DA T.dl.length T.dc, .slice T.A T.sub.length T.c] 32)).alloc (.cells #[.int .i64 0] 24)) := hb0.alloc (by simp) _
  have br := Boxed.new (w.alloc (.cells #[.int .u8 T.k, .string T.f, .string T.t, .string T.n, .int .u8 T.x.k, .string T.x.r, .string T.x.n, .int .i64 T.x.d, .slice T.x.A T.x.sub.length T.x.c, .int .i64 T.d, .slice T.DA T.dl.length T.dc, .slice T.A T.sub.length T.c] 32)) 24 (.int .i64 0)
  have bx2 := bx.below (belO (w.alloc (.cells #[.int .u8 T.k, .string T.f, .string T.t, .string T.n, .int .u8 T.x.k, .string T.x.r, .string T.x.n, .int .i64 T.x.d, .slice T.x.A T.x.sub.length T.x.c, .int .i64 T.d, .slice T.DA T.dl.length T.dc, .slice T.A T.sub.length T.c] 32)) (.cells #[.int .i64 0] 24))
  have hs1 : ((w.alloc (.cells #[.int .u8 T.k, .string T.f, .string T.t, .string T.n, .int .u8 T.x.k, .string T.x.r, .string T.x.n, .int .i64 T.x.d, .slice T.x.A T.x.sub.length T.x.c, .int .i64 T.d, .slice T.DA T.dl.length T.dc, .slice T.A T.sub.length T.c] 32)).alloc (.cells #[.int .i64 0] 24)).heap.size = w.heap.size + 2 := by simp
  rw [World.size_alloc] at br
  obtain ⟨w1, hw1⟩ : ∃ w1, (w.alloc (.cells #[.int .u8 T.k, .string T.f, .string T.t, .string T.n, .int .u8 T.x.k, .string T.x.r, .string T.x.n, .int .i64 T.x.d, .slice T.x.A T.x.sub.length T.x.c, .int .i64 T.d, .slice T.DA T.dl.length T.dc, .slice T.A T.sub.length T.c] 32)).alloc (.cells #[.int .i64 0] 24) = w1 := ⟨_, rfl⟩
  rw [hw1] at hb1 br bx2 hs1
  have cR := br.cell
  have fR := br.frozen
  obtain ⟨c0, c1, c2, c3, c4, c5, c6, c7, c8, c9, c10, c11⟩ := bx2
  have HC := Lib.hid (show T.chk = if T.many = true then 4 else if T.all.all Ct.frm = true then 0 else 8 from rfl)
  have HQ := Lib.hid (HF.out w1 hb1)
  clear hT hv hby bx HF
  generalize hR : T.chk = R at *
  clear hR
  show CallsIn Fence.wide 3 Tryz.prog 11 #[.agg #[.int .u8 T.k, .string T.f, .string T.t, .string T.n, .int .u8 T.x.k, .string T.x.r, .string T.x.n, .int .i64 T.x.d, .slice T.x.A T.x.sub.length T.x.c, .int .i64 T.d, .slice T.DA T.dl.length T.dc, .slice T.A T.sub.length T.c]] w _
  cases hm : T.many
  · rw [hm] at HC HQ
    rw [if_neg Bool.false_ne_true] at HC
    have HQ : Hid (Calls Tryz.prog 44 #[.agg #[.int .u8 T.k, .string T.f, .string T.t, .string T.n, .int .u8 T.x.k, .string T.x.r, .string T.x.n, .int .i64 T.x.d, .slice T.x.A T.x.sub.length T.x.c, .int .i64 T.d, .slice T.DA T.dl.length T.dc, .slice T.A T.sub.length T.c]] w1 (BoolRO true w1)) := HQ
    refine callsIn_of_wp_marks Tryz.func11 rfl trivial ?_ rfl
    simp only [Tryz.ntmps11, List.size_toArray, List.length_cons, List.length_nil, Nat.reduceAdd, Nat.reduceSub, Array.replicate_succ, Array.replicate_zero, List.push_toArray, List.append_toArray, List.nil_append, List.cons_append]
    gi_wp2_with (first
      | (refine ⟨trivial, ?_⟩; gi_at_call 44; refine (callsIn_wide.2 HQ.out).mono ?_; rintro e w2 ⟨rfl, hb⟩; have d0 := cellO hb c0; have d1 := cellO hb c1; have d2 := cellO hb c2; have d3 := cellO hb c3; have d4 := cellO hb c4; have d5 := cellO hb c5; have d6 := cellO hb c6; have d7 := cellO hb c7; have d8 := cellO hb c8; have d9 := cellO hb c9; have d10 := cellO hb c10; have d11 := cellO hb c11; have HB2 := Lib.hid hb; clear hb)
      | (refine ⟨trivial, ?_⟩; gi_at_call 45; refine (callsIn_wide.2 (HL.out _)).mono ?_; rintro e WL ⟨bb, rb, rfl, hN, hb3⟩))
    have hb2 := HB2.out
    have hbL : Below w.heap.size w WL := (hb1.trans (hb2.mono hb1.size)).trans (hb3.mono (Nat.le_trans hb1.size hb2.size))
    have hn2 : w.heap.size + 2 ≤ w2.heap.size := by rw [← hs1]; exact hb2.size
    have hnL : w2.heap.size ≤ WL.heap.size := hb3.size
    have bL : Boxed WL (w.heap.size + 1) 24 (.int .i64 0) := (hb3.block _ (by omega)).trans ((hb2.block _ (by omega)).trans br)
    clear c0 c1 c2 c3 c4 c5 c6 c7 c8 c9 c10 c11 d0 d1 d2 d3 d4 d5 d6 d7 d8 d9 d10 d11 cR fR hw1 HL
    refine wpIn_hands (F := Fence.wide) rfl rfl (gf := 97) (lb := #[.pointer (some ⟨bb, 0, none⟩), .pointer (some ⟨rb, 0, none⟩)]) rfl trivial (enters_of Tryz.func97 (by kernel_rfl) rfl)
      (handsC w.heap.size (w.heap.size + 2) T w WL bb rb rfl HT.out hz hbL (hN.mono (by omega))) (Below.refl _ _) (by omega) (by omega) (fun _ => rfl)
      (fun pre X => Boxed X (w.heap.size + 1) 24 (.int .i64 0) ∧ (Below w.heap.size w X ∧ ∀ q ∈ pre, q.2.frm = true))
      (fun c pre X => (c = .ret ∧ R = 8) ∧ (Boxed X (w.heap.size + 1) 24 (.int .i64 8) ∧ Below w.heap.size w X))
      (OwnFrom.and (Own.from (boxed_own _ _ (fun _ : List (Nat × Ct) => Value.int .i64 0)) _) (OwnFrom.and (ownFrom_below (Nat.le_refl _) (by omega)) (ownFrom_pure _ _)))
      (fun c => OwnFrom.and (ownFrom_pure _ (fun _ => c = .ret ∧ R = 8)) (OwnFrom.and (Own.from (boxed_own _ _ (fun _ : List (Nat × Ct) => Value.int .i64 8)) _) (ownFrom_below (Nat.le_refl _) (by omega))))
      ⟨bL, hbL, fun v hv => by simp at hv⟩
      (fun x a' X => ∃ Nb, w.heap.size + 2 ≤ Nb ∧ X.heap[Nb]? = some (.cells #[.int .u8 x.2.k, .string x.2.f, .string x.2.t, .string x.2.n, .int .u8 x.2.x.k, .string x.2.x.r, .string x.2.x.n, .int .i64 x.2.x.d, .slice x.2.x.A x.2.x.sub.length x.2.x.c, .int .i64 x.2.d, .slice x.2.DA x.2.dl.length x.2.dc, .slice x.2.A x.2.sub.length x.2.c] 32 (0, 0)) ∧ a' = { tmps := #[.agg #[.int .u8 T.k, .string T.f, .string T.t, .string T.n, .int .u8 T.x.k, .string T.x.r, .string T.x.n, .int .i64 T.x.d, .slice T.x.A T.x.sub.length T.x.c, .int .i64 T.d, .slice T.DA T.dl.length T.dc, .slice T.A T.sub.length T.c], .pointer (some ⟨w.heap.size, 0, none⟩), .pointer (some ⟨w.heap.size + 1, 0, none⟩), undef, .pointer (some ⟨Nb, 0, none⟩), .agg #[.int .u8 T.k, .string T.f, .string T.t, .string T.n, .int .u8 T.x.k, .string T.x.r, .string T.x.n, .int .i64 T.x.d, .slice T.x.A T.x.sub.length T.x.c, .int .i64 T.d, .slice T.DA T.dl.length T.dc, .slice T.A T.sub.length T.c], .bool true, .bool false, .agg #[.int .u8 T.k, .string T.f, .string T.t, .string T.n, .int .u8 T.x.k, .string T.x.r, .string T.x.n, .int .i64 T.x.d, .slice T.x.A T.x.sub.length T.x.c, .int .i64 T.d, .slice T.DA T.dl.length T.dc, .slice T.A T.sub.length T.c], .func (.func 97) #[] #[.pointer (some ⟨bb, 0, none⟩), .pointer (some ⟨rb, 0, none⟩)], .int .i64 x.1, x.2.val, undef, undef, undef], defers := [] })
      (fun x a' _ X Y row hs hg hr => by
        obtain ⟨Nb, h1, h2, h3⟩ := hs
        exact ⟨Nb, h1, blk9_own (β := Unit) WL.heap.size Nb _ _ () X Y row h2 hg hr, h3⟩)
      ?assign ?body ?done ?stop
    case assign =>
      rintro l1 pre ⟨L, t⟩ X K ⟨hy, hB, hf⟩ hnX hK
      have hlt := hy.lt
      gi_wp2
      have g1 : Below X.heap.size X (X.alloc (.cells #[.int .u8 t.k, .string t.f, .string t.t, .string t.n, .int .u8 t.x.k, .string t.x.r, .string t.x.n, .int .i64 t.x.d, .slice t.x.A t.x.sub.length t.x.c, .int .i64 t.d, .slice t.DA t.dl.length t.dc, .slice t.A t.sub.length t.c] 32)) := (Below.refl _ X).alloc (Nat.le_refl _) _
      have g2 := heap_alloc_new X (.cells #[.int .u8 t.k, .string t.f, .string t.t, .string t.n, .int .u8 t.x.k, .string t.x.r, .string t.x.n, .int .i64 t.x.d, .slice t.x.A t.x.sub.length t.x.c, .int .i64 t.d, .slice t.DA t.dl.length t.dc, .slice t.A t.sub.length t.c] 32)
      exact hK _ _ (Step.of_below g1 hnX) ⟨hy.alloc _, hB.trans (g1.mono hB.size), hf⟩ ⟨X.heap.size, by omega, g2, rfl⟩
    case body =>
      rintro l1 pre ⟨L, t⟩ a' X hl1 _ ⟨hy, hB, hf⟩ ⟨Nb, hNb, bN, rfl⟩ hpre
      have ht : t ∈ T.all := Ct.nod_mem (L := 1) (p := (L, t)) (hpre.subset (by simp))
      have cy := hy.cell
      have fy := hy.frozen
      obtain ⟨e0, e1, e2, e3, e4, e5, e6, e7, e8, e9, e10, e11⟩ := (Ct.Box.of_block (T := t) bN)
      have hnX := hB.size
      have HW := Lib.hid (wf9_any t X ((HT.out.below hB).all ht) (HBY.out t ht) (HV.out.below hB) (fun W h => isZero_any t.x W h))
      have HF := Lib.hid hf
      have hH : t.frm = false → R = 8 := fun h => by
        rw [HC.out, if_neg]
        intro g
        rw [List.all_eq_true] at g
        rw [g t ht] at h
        cases h
      have HH := Lib.hid hH
      have HY := Lib.hid hy
      have HB := Lib.hid hB
      clear hf hH ht bN hpre hy hB
      cases hw : t.frm
      · rw [hw] at HW
        have HH2 := Lib.hid (HH.out hw)
        clear hw
        gi_wp2_with (refine ⟨trivial, ?_⟩; gi_at_call 46; refine (CallsIn.inRound l1 (callsIn_wide.2 HW.out)).mono ?_; rintro e Y ⟨rfl, hb⟩; have y1 := cellO hb cy; have y2 : Boxed Y (w.heap.size + 1) 24 (.int .i64 0) := (hb.block _ HY.out.lt).trans HY.out; have y3 := y2.frozen; have HZ := Lib.hid hb; have HY2 := Lib.hid y2; clear hb y2)
        have h2 := HY2.out
        have h3 := HZ.out
        exact ⟨(Step.of_below h3 hnX).trans (Step.setCell (p := ⟨w.heap.size + 1, 0, none⟩) (by show w.heap.size ≤ w.heap.size + 1; omega) (by show w.heap.size + 1 < _; omega) _), ⟨rfl, HH2.out⟩, h2.set _, (HB.out.trans (h3.mono hnX)).setCell (p := ⟨w.heap.size + 1, 0, none⟩) (by show w.heap.size ≤ w.heap.size + 1; omega) _⟩
      · rw [hw] at HW
        have HF2 := Lib.hid (show ∀ q ∈ pre ++ [(L, t)], q.2.frm = true from fun q hq => by
          rcases List.mem_append.1 hq with hq | hq
          · exact HF.out q hq
          · simp at hq; subst hq; exact hw)
        clear hw
        gi_wp2_with (refine ⟨trivial, ?_⟩; gi_at_call 46; refine (CallsIn.inRound l1 (callsIn_wide.2 HW.out)).mono ?_; rintro e Y ⟨rfl, hb⟩; have HZ := Lib.hid hb; clear hb)
        have h3 := HZ.out
        exact ⟨Step.of_below h3 hnX, (h3.block _ HY.out.lt).trans HY.out, HB.out.trans (h3.mono hnX), HF2.out⟩
    case done =>
      rintro D X hD ⟨hy, hB, hf⟩ hK
      have cy := hy.cell
      have fy := hy.frozen
      have hR : R = 0 := by
        rw [HC.out, if_pos]
        rw [List.all_eq_true]
        intro u hu
        rw [← Ct.nod_snd T 1] at hu
        obtain ⟨q, hq, rfl⟩ := List.mem_map.1 hu
        exact hf q hq
      subst hR
      clear hf
      gi_wp2
      refine ⟨by simp, .inl ⟨_, _, rfl, run_takeDeferred (def_set hK (by omega)), ?_⟩⟩
      exact ⟨_, results_cell1 rfl _ _ (w.heap.size + 1) (.int .i64 0) rfl ((Boxed.put (hy.set _) (by omega)).cell) Tryz.isAgg24, rfl, bel_put (hB.setCell (p := ⟨w.heap.size + 1, 0, none⟩) (by show w.heap.size ≤ w.heap.size + 1; omega) _) (by omega) (def_set hK (by omega))⟩
    case stop =>
      rintro D c pre X hD hp ⟨⟨rfl, hR⟩, hy, hB⟩ hK
      subst hR
      gi_wp2
      refine ⟨by simp, .inl ⟨_, _, rfl, run_takeDeferred hK, ?_⟩⟩
      exact ⟨_, results_cell1 rfl _ _ (w.heap.size + 1) (.int .i64 8) rfl ((Boxed.put hy (by omega)).cell) Tryz.isAgg24, rfl, bel_put hB (by omega) hK⟩
  · rw [hm] at HC HQ
    rw [if_pos rfl] at HC
    have HQ : Hid (Calls Tryz.prog 44 #[.agg #[.int .u8 T.k, .string T.f, .string T.t, .string T.n, .int .u8 T.x.k, .string T.x.r, .string T.x.n, .int .i64 T.x.d, .slice T.x.A T.x.sub.length T.x.c, .int .i64 T.d, .slice T.DA T.dl.length T.dc, .slice T.A T.sub.length T.c]] w1 (BoolRO false w1)) := HQ
    have hR : R = 4 := HC.out
    subst hR
    refine callsIn_of_wp_marks Tryz.func11 rfl trivial ?_ rfl
    simp only [Tryz.ntmps11, List.size_toArray, List.length_cons, List.length_nil, Nat.reduceAdd, Nat.reduceSub, Array.replicate_succ, Array.replicate_zero, List.push_toArray, List.append_toArray, List.nil_append, List.cons_append]
    gi_wp2_with (refine ⟨trivial, ?_⟩; gi_at_call 44; refine (callsIn_wide.2 HQ.out).mono ?_; rintro e w2 ⟨rfl, hb⟩; have y1 := cellO hb cR; have y2 : Boxed w2 (w.heap.size + 1) 24 (.int .i64 0) := (hb.block _ br.lt).trans br; have y3 := y2.frozen; have HB2 := Lib.hid hb; have HY2 := Lib.hid y2; clear hb y2)
    exact ⟨_, results_cell1 rfl _ _ (w.heap.size + 1) (.int .i64 4) rfl ((HY2.out.set _).cell) Tryz.isAgg24, rfl, (hb1.trans (HB2.out.mono hb1.size)).setCell (p := ⟨w.heap.size + 1, 0, none⟩) (by show w.heap.size ≤ w.heap.size + 1; omega) _⟩
end Go.Proofs.YtalejbabhjlehaaGreatDoor
/- Layer 9: what a valid contract's parts are (plain). -/
namespace Go.Proofs.YtalejbabhjlehaaGreatDoor
open Go Go.RowKit Go.BigFrame
theorem Ct.chk_iff (T : Ct) : T.chk = 0 ↔ T.many = false ∧ ∀ u ∈ T.all, u.frm = true := by
  unfold Ct.chk
  cases T.many
  · by_cases h : T.all.all Ct.frm = true
    · simp only [h, if_true, Bool.false_eq_true, if_false, true_and]
      exact ⟨fun _ => List.all_eq_true.1 h, fun _ => trivial⟩
    · simp only [h, Bool.false_eq_true, if_false, true_and]
      exact ⟨fun e => by omega, fun e => absurd (List.all_eq_true.2 e) h⟩
  · simp
theorem Ct.many_iff2 (T : Ct) : T.many = false ↔ T.siz ≤ 500 ∧ T.dep ≤ 60 := by
  unfold Ct.many
  rw [Bool.or_eq_false_iff, decide_eq_false_iff_not, decide_eq_false_iff_not]
  omega
theorem ex_zero {x : Ex} (h : x.k = 0) : x.srt = 0 := by
  obtain ⟨k, r, n, d, A, c, s⟩ := x
  obtain rfl : k = 0 := h
  rw [Ex.srt_mk]
  unfold srtF
  rw [if_neg (fun g => g.1 (by decide))]
theorem hvE_of {q : Int} {x : Ex} (h : hvE q x = true) : (x.k ≠ 0 → x.chk = 0 ∧ x.xsz = x.siz ∧ x.xdp = x.dep) ∧ (x.k = 0 → x.xsz = 0 ∧ x.xdp = 0) := by
  have key : x.chk = 0 ∧ x.srt ≠ 0 ∨ x.bar = true := by
    unfold hvE at h
    split at h
    · unfold Ex.isB at h
      have h := of_decide_eq_true h
      exact .inl ⟨h.1, by omega⟩
    · split at h
      · unfold Ex.isB at h
        have h := of_decide_eq_true h
        exact .inl ⟨h.1, by omega⟩
      · exact .inr h
  have hb : x.bar = true → x.k = 0 := fun g => by
    unfold Ex.bar at g
    exact (of_decide_eq_true g).1
  constructor
  · intro hk
    have hf : x.bar = false := by
      cases g : x.bar
      · rfl
      · exact absurd (hb g) hk
    rcases key with g | g
    · unfold Ex.xsz Ex.xdp
      rw [hf]
      exact ⟨g.1, rfl, rfl⟩
    · rw [hf] at g; cases g
  · intro hk
    rcases key with g | g
    · exact absurd (ex_zero hk) g.2
    · unfold Ex.xsz Ex.xdp
      rw [g]
      exact ⟨rfl, rfl⟩
theorem Ct.chk_x {kk : Int} {ff tt nn : ByteArray} {X : Ex} {dd : Int} {DA : Option Addr} {dl : List Int} {dc : Nat} {A : Option Addr} {c : Nat} {s : List Ct} (h : Ct.chk (.mk kk ff tt nn X dd DA dl dc A c s) = 0) : (X.k ≠ 0 → X.chk = 0 ∧ X.xsz = X.siz ∧ X.xdp = X.dep) ∧ (X.k = 0 → X.xsz = 0 ∧ X.xdp = 0) := by
  have h1 := ((Ct.chk_iff _).1 h).2 (.mk kk ff tt nn X dd DA dl dc A c s) (by rw [Ct.all_mk]; exact List.mem_cons_self ..)
  unfold Ct.frm at h1
  simp only [Bool.and_eq_true] at h1
  exact hvE_of h1.1.1.2
theorem sum_mem_le {l : List Nat} {a : Nat} (h : a ∈ l) : a ≤ l.sum := by
  induction l with
  | nil => cases h
  | cons b r ih =>
    rw [List.sum_cons]
    rcases List.mem_cons.1 h with rfl | h
    · omega
    · have := ih h; omega
theorem Ct.chk_sub {kk : Int} {ff tt nn : ByteArray} {X : Ex} {dd : Int} {DA : Option Addr} {dl : List Int} {dc : Nat} {A : Option Addr} {c : Nat} {s : List Ct} (h : Ct.chk (.mk kk ff tt nn X dd DA dl dc A c s) = 0) : ∀ t ∈ s, t.chk = 0 := by
  intro t ht
  obtain ⟨h1, h2⟩ := (Ct.chk_iff _).1 h
  obtain ⟨h3, h4⟩ := (Ct.many_iff2 _).1 h1
  refine (Ct.chk_iff _).2 ⟨(Ct.many_iff2 _).2 ⟨?_, ?_⟩, fun u hu => h2 u ?_⟩
  · rw [Ct.siz_mk] at h3
    have := sum_mem_le (List.mem_map_of_mem (f := Ct.siz) ht)
    omega
  · have := ((Ct.dep_le kk ff tt nn X dd DA dl dc A c s 59).1 h4).2 t ht
    omega
  · rw [Ct.all_mk]
    exact List.mem_cons_of_mem _ (List.mem_flatMap.2 ⟨t, ht, hu⟩)
theorem Ct.grt_byt {T : Ct} (h : T.grt = false) : T.Byt := fun _ hu => (Ct.grt_mem h hu).2.2.1
theorem Ct.byt_sub {kk : Int} {ff tt nn : ByteArray} {X : Ex} {dd : Int} {DA : Option Addr} {dl : List Int} {dc : Nat} {A : Option Addr} {c : Nat} {s : List Ct} (h : Ct.Byt (.mk kk ff tt nn X dd DA dl dc A c s)) : ∀ t ∈ s, t.Byt := fun t ht u hu => h u (by rw [Ct.all_mk]; exact List.mem_cons_of_mem _ (List.mem_flatMap.2 ⟨t, ht, hu⟩))
theorem len_sum (s : List Ct) : s.length ≤ (s.map Ct.siz).sum := by
  induction s with
  | nil => exact Nat.zero_le _
  | cons a r ih =>
    have := Ct.siz_pos a
    rw [List.length_cons, List.map_cons, List.sum_cons]
    omega
theorem sum_take9 {s : List Ct} {k : Nat} (h : k < s.length) (f : Ct → Nat) : ((s.take (k + 1)).map f).sum = ((s.take k).map f).sum + f s[k] := by
  rw [List.take_succ_eq_append_getElem h, List.map_append, List.sum_append]
  simp
theorem max_take9 {s : List Ct} {k : Nat} (h : k < s.length) (f : Ct → Nat) (z : Nat) : ((s.take (k + 1)).map f).foldl max z = max (((s.take k).map f).foldl max z) (f s[k]) := by
  rw [List.take_succ_eq_append_getElem h, List.map_append, List.foldl_append]
  rfl
theorem sum_take_le9 (s : List Ct) (k : Nat) (f : Ct → Nat) : ((s.take k).map f).sum ≤ (s.map f).sum := by
  conv => rhs; rw [← List.take_append_drop k s]
  rw [List.map_append, List.sum_append]
  omega
theorem max_take_le9 (s : List Ct) (k : Nat) (f : Ct → Nat) (z : Nat) : ((s.take k).map f).foldl max z ≤ (s.map f).foldl max z :=
  (foldl_max_le _ _ _).2 ⟨((foldl_max_le (s.map f) z _).1 (Nat.le_refl _)).1, fun v hv => ((foldl_max_le (s.map f) z _).1 (Nat.le_refl _)).2 v (by
    obtain ⟨t, ht, rfl⟩ := List.mem_map.1 hv
    exact List.mem_map_of_mem (List.mem_of_mem_take ht))⟩
end Go.Proofs.YtalejbabhjlehaaGreatDoor

/- Joined: CnY, CnQ, CnR, CnL1. -/
import Derived.Test.YtalejbabhjlehaaGreatDoorPk28
import Derived.Test.YtalejbabhjlehaaGreatDoorPk29
import Derived.Maps.AppendAt
/- Layer 9: the program's names of a contract: Parties, Currencies. -/
namespace Go.Proofs.YtalejbabhjlehaaGreatDoor
open Go Go.RowKit Go.Shelf Go.BigFrame Go.Sort
attribute [local go_sem] Oper.semAt_some
theorem infoSt : (Tryz.prog.info? 9).map (fun i => (i.zero, i.size, i.bytes)) = some (some (.string ⟨#[]⟩), 1, 16) := by kernel_rfl
def nonE (l : List ByteArray) : List (List UInt8) := (l.map (fun b => b.data.toList)).filter (fun b => !b.isEmpty)
theorem nonE_app (a b : List ByteArray) : nonE (a ++ b) = nonE a ++ nonE b := by unfold nonE; rw [List.map_append, List.filter_append]
theorem nonE_len (a : List ByteArray) : (nonE a).length ≤ a.length := by unfold nonE; exact Nat.le_trans (List.length_filter_le _ _) (by simp)
theorem encStr_data (b : ByteArray) : encStr b.data.toList = .string b := by cases b; rfl
def flN (g : Ct → List ByteArray) (pre : List (Nat × Ct)) : List (List UInt8) := pre.flatMap (fun q => nonE (g q.2))
theorem flN_app (g : Ct → List ByteArray) (pre : List (Nat × Ct)) (x : Nat × Ct) : flN g (pre ++ [x]) = flN g pre ++ nonE (g x.2) := by unfold flN; rw [List.flatMap_append]; simp
theorem flN_len (g : Ct → List ByteArray) (hg : ∀ u, (g u).length ≤ 2) (pre : List (Nat × Ct)) : (flN g pre).length ≤ 2 * pre.length := by
  induction pre with
  | nil => simp [flN]
  | cons x l ih =>
    have h1 := nonE_len (g x.2)
    have h2 := hg x.2
    have : (flN g (x :: l)).length = (nonE (g x.2)).length + (flN g l).length := by unfold flN; rw [List.flatMap_cons, List.length_append]
    rw [this, List.length_cons]
    omega
def nms (g : Ct → List ByteArray) (T : Ct) : List (List UInt8) := Lib.compact ((flN g (T.nod 1)).mergeSort fun x y => decide (x ≤ y))
def parL (T : Ct) : List ByteArray := [T.f, T.t]
def StrsIn (lo : Nat) (w : World) (A : Option Addr) (l : List ByteArray) : Prop := ∀ j (h : j < l.length), ∃ b o, A = some ⟨b, o, none⟩ ∧ lo ≤ b ∧ b < w.heap.size ∧ w.cell? ⟨b, o + j, none⟩ = some (.string l[j])
theorem own_keepB {W W' : World} {base : Nat} {e : TypeId} {v : Value} {k : Nat} {xs : List Value} (h : W.ownsRow base e 1 v k xs) (hb : Below W.heap.size W W') : W'.ownsRow base e 1 v k xs :=
  h.kept (grown_of_below hb) (by
    cases hv : v.ownBlock with
    | none => exact .inl rfl
    | some b => exact .inr (fun e => by cases e))
theorem own_lowC {w : World} {base base' : Nat} {e : TypeId} {size : Nat} {v : Value} {n : Nat} {xs : List Value} (h : w.ownsRow base e size v n xs) (hb : base' ≤ base) : w.ownsRow base' e size v n xs := by
  refine ⟨h.1, ?_⟩
  rcases h.2 with h0 | ⟨g, cap, cur, hv, hg, r⟩
  · exact .inl h0
  · exact .inr ⟨g, cap, cur, hv, Nat.le_trans hb hg, r⟩
theorem nonE_take {l : List ByteArray} {k : Nat} (hk : k < l.length) : nonE (l.take (k + 1)) = nonE (l.take k) ++ nonE [l[k]] := by rw [List.take_succ_eq_append_getElem hk, nonE_app]
theorem nonE_empty : nonE [⟨#[]⟩] = [] := rfl
theorem nonE_one {s : ByteArray} (h : (s.toList == ([] : List UInt8)) = false) : nonE [s] = [s.data.toList] := by
  rw [Lib.toList_data] at h
  unfold nonE
  simp only [List.map_cons, List.map_nil]
  cases hs : s.data.toList with
  | nil => rw [hs] at h; cases h
  | cons a l => rfl
theorem appS {W w1 : World} {n₀ B Bx base : Nat} {x : Option Nat} {t : TypeId} {v v' : Value} {k m : Nat} {xs ys : List Value} {tmp : Obj} (hb0 : n₀ ≤ Bx) (hb1 : Bx < B) (hb2 : B ≤ base) (hv : Boxed W Bx t v) (hte : t ≠ 9) (hrow : W.ownsRow base 9 1 v k xs) (hbs : base ≤ W.heap.size) (hown' : w1.ownsRow base 9 1 v' m ys) (hgrow : (W.alloc tmp).grownBy w1 v.ownBlock) :
    Boxed w1 Bx t v ∧ Boxed (w1.setCell ⟨Bx, 0, none⟩ v') Bx t v' ∧ (w1.setCell ⟨Bx, 0, none⟩ v').ownsRow base 9 1 v' m ys ∧ Step n₀ B x W (w1.setCell ⟨Bx, 0, none⟩ v') := by
  have hv1 : Boxed w1 Bx t v := (hv.alloc tmp).kept hgrow (hv.not_row hte hrow)
  refine ⟨hv1, hv1.set v', hown'.kept (grownBy_setCell' w1 Bx v') (.inr (hv1.not_row hte hown').symm), ?_, ?_⟩
  · refine (((Below.refl n₀ W).alloc (by omega) tmp).grown hgrow (by simp; omega) fun j ej => ?_).setCell (p := ⟨Bx, 0, none⟩) hb0 v'
    rcases hrow.2 with ⟨rfl, _⟩ | ⟨g, cap, cur, rfl, hb, _, _⟩
    · simp [Value.ownBlock] at ej
    · obtain rfl : g = j := by simpa [Value.ownBlock] using ej
      omega
  · intro q o hq _ ho hne
    have h1 : q < W.heap.size := (Array.getElem?_eq_some_iff.1 ho).1
    have h2 : (W.alloc tmp).heap[q]? = some o := (Below.heap_alloc W tmp q h1).trans ho
    have h3 : w1.heap[q]? = some o := (hgrow.block q (by simp; omega) (fun e => by
      rcases (hrow.alloc tmp).2 with ⟨rfl, _⟩ | ⟨g, cap, cur, rfl, _, hgb, _⟩
      · simp [Value.ownBlock] at e
      · obtain rfl : q = g := by simpa [Value.ownBlock] using e
        rw [h2] at hgb
        exact hne cur (0, 0) (by injection hgb))).trans h2
    exact (Below.heap_setCell w1 ⟨Bx, 0, none⟩ v' q (by show q ≠ Bx; omega)).trans h3
set_option maxRecDepth 100000 in
set_option maxHeartbeats 1000000 in
theorem parties1_any (T : Ct) (w : World) : Calls Tryz.prog 62 #[T.val] w fun e w' => ∃ A c, e = .returned (.slice A (parL T).length c) ∧ StrsIn w.heap.size w' A (parL T) ∧ Below w.heap.size w w' := by
  obtain ⟨w1, hw1⟩ : ∃ w1, w.alloc (.cells #[.int .u8 T.k, .string T.f, .string T.t, .string T.n, .int .u8 T.x.k, .string T.x.r, .string T.x.n, .int .i64 T.x.d, .slice T.x.A T.x.sub.length T.x.c, .int .i64 T.d, .slice T.DA T.dl.length T.dc, .slice T.A T.sub.length T.c] 32) = w1 := ⟨_, rfl⟩
  have HB1 := Lib.hid (show Below w.heap.size w w1 by rw [← hw1]; exact belO w _)
  have hx : Ct.Box w1 w.heap.size T := by rw [← hw1]; exact Ct.Box.new w T 32
  obtain ⟨c0, c1, c2, c3, c4, c5, c6, c7, c8, c9, c10, c11⟩ := hx
  show Calls Tryz.prog 62 #[.agg #[.int .u8 T.k, .string T.f, .string T.t, .string T.n, .int .u8 T.x.k, .string T.x.r, .string T.x.n, .int .i64 T.x.d, .slice T.x.A T.x.sub.length T.x.c, .int .i64 T.d, .slice T.DA T.dl.length T.dc, .slice T.A T.sub.length T.c]] w _
  go_enter Tryz.func62, Tryz.ntmps62
  go_wp2_with (fail)
  go_ret
  have hr := heap_alloc_new w1 (.cells #[.string T.f, .string T.t] 9)
  refine ⟨_, _, rfl, fun j hj => ⟨w1.heap.size, 0, rfl, HB1.out.size, by simp, ?_⟩, HB1.out.alloc HB1.out.size _⟩
  have hj : j < 2 := hj
  rcases (show j = 0 ∨ j = 1 by omega) with rfl | rfl
  · exact blk_cell hr rfl
  · exact blk_cell hr rfl
def curL (T : Ct) : List ByteArray := if T.k = 2 then [T.n] else []
set_option maxRecDepth 100000 in
set_option maxHeartbeats 4000000 in
theorem namesP_any (hG : ∀ u, (parL u).length ≤ 2) (T : Ct) (w : World) (hT : T.In w) (hz : T.siz ≤ 900) (hby : T.Byt) (hv : VarR w)
    (hOf : ∀ u W, Calls Tryz.prog 62 #[u.val] W fun e w' => ∃ A c, e = .returned (.slice A (parL u).length c) ∧ StrsIn W.heap.size w' A (parL u) ∧ Below W.heap.size W w') :
    Calls Tryz.prog 61 #[T.val, .func (.func 62) #[] #[]] w fun e w' => (T.chk ≠ 0 ∧ e = .returned (.tuple #[.slice none 0 0, .int .i64 T.chk]) ∨ T.chk = 0 ∧ ∃ v, e = .returned (.tuple #[v, .int .i64 0]) ∧ w'.ownsRow w.heap.size 9 1 v (nms parL T).length ((nms parL T).map encStr)) ∧ Below w.heap.size w w' := by
  refine (callsIn_wide (n := 3)).1 ?_
  have HQ := Lib.hid (fun W (hW : Below w.heap.size w W) => ccheck_any T W (hT.below hW) (by omega) hby (hv.below hW))
  have HL := Lib.hid (contracts_any T)
  have HT := Lib.hid hT
  have hoc : ∀ k, (Value.func (.func k) #[] #[]).oneCell' = true := fun _ => rfl
  obtain ⟨w1, hw1⟩ : ∃ w1, (w.alloc (.cells #[.int .u8 T.k, .string T.f, .string T.t, .string T.n, .int .u8 T.x.k, .string T.x.r, .string T.x.n, .int .i64 T.x.d, .slice T.x.A T.x.sub.length T.x.c, .int .i64 T.d, .slice T.DA T.dl.length T.dc, .slice T.A T.sub.length T.c] 32)).alloc (.cells #[.func (.func 62) #[] #[]] 75) = w1 := ⟨_, rfl⟩
  have hb1 : Below w.heap.size w w1 := by rw [← hw1]; exact ((Below.refl _ w).alloc (Nat.le_refl _) _).alloc (by simp) _
  have hx : Ct.Box w1 w.heap.size T := by rw [← hw1]; exact (Ct.Box.new w T 32).below (belO _ _)
  have bf : Boxed w1 (w.heap.size + 1) 75 (.func (.func 62) #[] #[]) := by
    have := Boxed.new (w.alloc (.cells #[.int .u8 T.k, .string T.f, .string T.t, .string T.n, .int .u8 T.x.k, .string T.x.r, .string T.x.n, .int .i64 T.x.d, .slice T.x.A T.x.sub.length T.x.c, .int .i64 T.d, .slice T.DA T.dl.length T.dc, .slice T.A T.sub.length T.c] 32)) 75 (.func (.func 62) #[] #[])
    rw [World.size_alloc, hw1] at this
    exact this
  have hs1 : w1.heap.size = w.heap.size + 2 := by rw [← hw1]; simp
  obtain ⟨c0, c1, c2, c3, c4, c5, c6, c7, c8, c9, c10, c11⟩ := hx
  have HQ1 := Lib.hid (HQ.out w1 hb1)
  clear hT hv hby HQ
  show CallsIn Fence.wide 3 Tryz.prog 61 #[.agg #[.int .u8 T.k, .string T.f, .string T.t, .string T.n, .int .u8 T.x.k, .string T.x.r, .string T.x.n, .int .i64 T.x.d, .slice T.x.A T.x.sub.length T.x.c, .int .i64 T.d, .slice T.DA T.dl.length T.dc, .slice T.A T.sub.length T.c], .func (.func 62) #[] #[]] w _
  generalize T.chk = R at *
  by_cases hR : R = 0
  · subst hR
    refine callsIn_of_wp_marks Tryz.func61 rfl trivial ?_ rfl
    simp only [Tryz.ntmps61, List.size_toArray, List.length_cons, List.length_nil, Nat.reduceAdd, Nat.reduceSub, Array.replicate_succ, Array.replicate_zero, List.push_toArray, List.append_toArray, List.nil_append, List.cons_append]
    gi_wp2_with (first
      | (refine ⟨trivial, ?_⟩; gi_at_call 11; refine (callsIn_wide.2 HQ1.out).mono ?_; rintro e w2 ⟨rfl, hb⟩; have d0 := cellO (belO w2 (.cells #[.slice none 0 0] 42)) (cellO hb c0); have d1 := cellO (belO w2 (.cells #[.slice none 0 0] 42)) (cellO hb c1); have d2 := cellO (belO w2 (.cells #[.slice none 0 0] 42)) (cellO hb c2); have d3 := cellO (belO w2 (.cells #[.slice none 0 0] 42)) (cellO hb c3); have d4 := cellO (belO w2 (.cells #[.slice none 0 0] 42)) (cellO hb c4); have d5 := cellO (belO w2 (.cells #[.slice none 0 0] 42)) (cellO hb c5); have d6 := cellO (belO w2 (.cells #[.slice none 0 0] 42)) (cellO hb c6); have d7 := cellO (belO w2 (.cells #[.slice none 0 0] 42)) (cellO hb c7); have d8 := cellO (belO w2 (.cells #[.slice none 0 0] 42)) (cellO hb c8); have d9 := cellO (belO w2 (.cells #[.slice none 0 0] 42)) (cellO hb c9); have d10 := cellO (belO w2 (.cells #[.slice none 0 0] 42)) (cellO hb c10); have d11 := cellO (belO w2 (.cells #[.slice none 0 0] 42)) (cellO hb c11); have HB2 := Lib.hid hb; clear hb)
      | (refine ⟨trivial, ?_⟩; gi_at_call 45; refine (callsIn_wide.2 (HL.out _)).mono ?_; rintro e WL ⟨bb, rb, rfl, hN, hb3⟩))
    obtain ⟨Bx, hBx⟩ : ∃ Bx, w2.heap.size = Bx := ⟨_, rfl⟩
    have hb2 := HB2.out
    have hb2a := belO w2 (.cells #[.slice none 0 0] 42)
    have hbL : Below w.heap.size w WL := hb1.trans ((btO hb2 (btO hb2a hb3)).mono hb1.size)
    have bl := Boxed.new w2 42 (.slice none 0 0)
    have bl2 : Boxed WL Bx 42 (.slice none 0 0) := by rw [← hBx]; exact (hb3.block _ bl.lt).trans bl
    have bf2 : Boxed WL (w.heap.size + 1) 75 (.func (.func 62) #[] #[]) := ((btO hb2 (btO hb2a hb3)).block _ bf.lt).trans bf
    have hn1 : w.heap.size + 2 ≤ Bx := by rw [← hBx, ← hs1]; exact hb2.size
    have hn2 : Bx + 1 ≤ WL.heap.size := by have := hb3.size; simp at this; omega
    have hN2 : NodC (Bx + 1) T bb rb WL := hN.mono (by simp; omega)
    rw [hBx]
    obtain ⟨i0, hi, hz0, hz1, hz2⟩ := info_parts infoSt
    have HOf := Lib.hid hOf
    clear d0 d1 d2 d3 d4 d5 d6 d7 d8 d9 d10 d11 c0 c1 c2 c3 c4 c5 c6 c7 c8 c9 c10 c11 hw1 HL hb3 bl hb2a hb2 hBx HB2 hN HQ1 hs1 bf hb1 hOf
    refine wpIn_hands (F := Fence.wide) rfl rfl (gf := 97) (lb := #[.pointer (some ⟨bb, 0, none⟩), .pointer (some ⟨rb, 0, none⟩)]) rfl trivial (enters_of Tryz.func97 (by kernel_rfl) rfl)
      (handsC w.heap.size (Bx + 1) T w WL bb rb rfl HT.out (by omega) hbL hN2) (Below.refl _ _) (by omega) (by omega) (fun _ => rfl)
      (fun pre X => (∃ v, Boxed X Bx 42 v ∧ X.ownsRow (Bx + 1) 9 1 v (flN parL pre).length ((flN parL pre).map encStr) ∧ True) ∧ (Boxed X (w.heap.size + 1) 75 (.func (.func 62) #[] #[]) ∧ Below w.heap.size w X))
      (fun _ _ _ => False)
      (OwnFrom.and (Own.from (holdsRow_own (Bx + 1) Bx 42 9 1 (fun pre : List (Nat × Ct) => (flN parL pre).length) (fun pre => (flN parL pre).map encStr) (fun _ _ => True)) _) (OwnFrom.and (Own.from (boxed_own _ _ (fun _ : List (Nat × Ct) => Value.func (.func 62) #[] #[])) _) (ownFrom_below (Nat.le_refl _) (by omega))))
      (fun c => ownFrom_pure _ (fun _ => False))
      ⟨⟨_, bl2, World.ownsRow_nil _ _ _ _, trivial⟩, bf2, hbL⟩
      (fun x a' X => ∃ Nb, Bx + 1 ≤ Nb ∧ X.heap[Nb]? = some (.cells #[.int .u8 x.2.k, .string x.2.f, .string x.2.t, .string x.2.n, .int .u8 x.2.x.k, .string x.2.x.r, .string x.2.x.n, .int .i64 x.2.x.d, .slice x.2.x.A x.2.x.sub.length x.2.x.c, .int .i64 x.2.d, .slice x.2.DA x.2.dl.length x.2.dc, .slice x.2.A x.2.sub.length x.2.c] 32 (0, 0)) ∧ a' = { tmps := #[.agg #[.int .u8 T.k, .string T.f, .string T.t, .string T.n, .int .u8 T.x.k, .string T.x.r, .string T.x.n, .int .i64 T.x.d, .slice T.x.A T.x.sub.length T.x.c, .int .i64 T.d, .slice T.DA T.dl.length T.dc, .slice T.A T.sub.length T.c], .func (.func 62) #[] #[], .pointer (some ⟨w.heap.size, 0, none⟩), .pointer (some ⟨w.heap.size + 1, 0, none⟩), .slice none 0 0, .int .i64 0, .int .i64 0, .pointer (some ⟨Bx, 0, none⟩), undef, .pointer (some ⟨Nb, 0, none⟩), undef, undef, .agg #[.int .u8 T.k, .string T.f, .string T.t, .string T.n, .int .u8 T.x.k, .string T.x.r, .string T.x.n, .int .i64 T.x.d, .slice T.x.A T.x.sub.length T.x.c, .int .i64 T.d, .slice T.DA T.dl.length T.dc, .slice T.A T.sub.length T.c], .int .i64 0, .int .i64 0, .bool false, undef, .agg #[.int .u8 T.k, .string T.f, .string T.t, .string T.n, .int .u8 T.x.k, .string T.x.r, .string T.x.n, .int .i64 T.x.d, .slice T.x.A T.x.sub.length T.x.c, .int .i64 T.d, .slice T.DA T.dl.length T.dc, .slice T.A T.sub.length T.c], .func (.func 97) #[] #[.pointer (some ⟨bb, 0, none⟩), .pointer (some ⟨rb, 0, none⟩)], .int .i64 x.1, x.2.val, undef, undef, undef, undef, undef, undef, undef, undef, undef, undef, undef, undef, undef, undef, undef, undef, undef, undef, undef], defers := [] })
      (fun x a' _ X Y row hs hg hr => by
        obtain ⟨Nb, h1, h2, h3⟩ := hs
        exact ⟨Nb, h1, blk9_own (β := Unit) WL.heap.size Nb _ _ () X Y row h2 hg hr, h3⟩)
      ?assign ?body ?done ?stop
    case assign =>
      rintro l1 pre ⟨L, t⟩ X K ⟨⟨v, hy, hrow, -⟩, hf, hB⟩ hnX hK
      have hlt := hy.lt
      gi_wp2
      have g1 : Below X.heap.size X (X.alloc (.cells #[.int .u8 t.k, .string t.f, .string t.t, .string t.n, .int .u8 t.x.k, .string t.x.r, .string t.x.n, .int .i64 t.x.d, .slice t.x.A t.x.sub.length t.x.c, .int .i64 t.d, .slice t.DA t.dl.length t.dc, .slice t.A t.sub.length t.c] 32)) := (Below.refl _ X).alloc (Nat.le_refl _) _
      have g2 := heap_alloc_new X (.cells #[.int .u8 t.k, .string t.f, .string t.t, .string t.n, .int .u8 t.x.k, .string t.x.r, .string t.x.n, .int .i64 t.x.d, .slice t.x.A t.x.sub.length t.x.c, .int .i64 t.d, .slice t.DA t.dl.length t.dc, .slice t.A t.sub.length t.c] 32)
      exact hK _ _ (Step.of_below g1 hnX) ⟨⟨v, hy.alloc _, hrow.alloc _, trivial⟩, hf.alloc _, hB.trans (g1.mono hB.size)⟩ ⟨X.heap.size, by omega, g2, rfl⟩
    case body =>
      rintro l1 pre ⟨L, t⟩ a' X hl1 _ ⟨⟨v, hy, hrow, -⟩, hf, hB⟩ ⟨Nb, hNb, bN, rfl⟩ hpre
      have hlen : (flN parL pre).length ≤ 1800 := by
        have h1 := flN_len parL hG pre
        have h2 := hpre.length_le
        rw [Ct.nod_len] at h2
        have h3 := Ct.num_le_siz T
        simp at h2
        omega
      have hX : Bx + 1 ≤ X.heap.size := hy.lt
      have cF := hf.cell
      obtain ⟨e0, e1, e2, e3, e4, e5, e6, e7, e8, e9, e10, e11⟩ := (Ct.Box.of_block (T := t) bN)
      have HG := Lib.hid (HOf.out t X)
      have hG2 := hG t
      have HD : Hid (flN parL (pre ++ [(L, t)]) = flN parL pre ++ nonE (parL t)) := flN_app _ _ _
      have hGl : (parL t).length ≤ 9223372036854775807 := by omega
      generalize parL t = gl at *
      generalize flN parL pre = fl at *
      have HROW := Lib.hid hrow
      have HY := Lib.hid hy
      have HF := Lib.hid hf
      have HBX := Lib.hid hB
      clear bN hpre hrow hy hf hB
      gi_wp2_with (refine ⟨trivial, ?_⟩; gi_at_call 62; refine (CallsIn.inRound l1 (callsIn_wide.2 HG.out)).mono ?_; rintro e Y ⟨A, c, rfl, hS, hbY⟩)
      have HbY := Lib.hid hbY
      have HS := Lib.hid hS
      clear hbY hS e0 e1 e2 e3 e4 e5 e6 e7 e8 e9 e10 e11 cF
      have how : ∀ b, v.ownBlock = some b → b < X.heap.size := by
        obtain ⟨_, _, _, h⟩ := own_formC HROW.out
        exact h
      have HOW := Lib.hid how
      clear how
      gi_loopw [25] (fun i wr => ∃ k : Nat, k ≤ gl.length ∧ i = .int .i64 k ∧ Hid (∃ v, Boxed wr Bx 42 v ∧ wr.ownsRow (Bx + 1) 9 1 v (fl ++ nonE (gl.take k)).length ((fl ++ nonE (gl.take k)).map encStr) ∧ (k = 0 → ∀ b, v.ownBlock = some b → b < X.heap.size)) ∧ Hid (Boxed wr (w.heap.size + 1) 75 (.func (.func 62) #[] #[]) ∧ Step w.heap.size (Bx + 1) none X wr) ∧ Hid (∀ j, k ≤ j → (h : j < gl.length) → ∃ b o, A = some ⟨b, o, none⟩ ∧ X.heap.size ≤ b ∧ wr.cell? ⟨b, o + j, none⟩ = some (.string gl[j]))) (fun i _ => gl.length - (intOf i).toNat)
      case atStart =>
        refine ⟨0, by omega, rfl, ⟨v, (HbY.out.block _ HY.out.lt).trans HY.out, ?_, fun _ => HOW.out⟩, ⟨(HbY.out.block _ HF.out.lt).trans HF.out, Step.of_below HbY.out (by omega)⟩, fun j _ h => ?_⟩
        · rw [show fl ++ nonE (gl.take 0) = fl by simp [nonE]]
          exact own_keepB HROW.out HbY.out
        · obtain ⟨b, o, h1, h0, -, h2⟩ := HS.out j h
          exact ⟨b, o, h1, h0, h2⟩
      case round =>
        obtain ⟨k, hk, rfl, hO, hQ, hC⟩ := hrel
        by_cases hlt : k < gl.length
        · obtain ⟨b, o, rfl, hbX, d0⟩ := hC.out k (Nat.le_refl _) hlt
          have HT1 := Lib.hid (nonE_take hlt)
          have HC2 : Hid (∀ j, k + 1 ≤ j → (h : j < gl.length) → ∃ b' o', (some ⟨b, o, none⟩ : Option Addr) = some ⟨b', o', none⟩ ∧ X.heap.size ≤ b' ∧ wr.cell? ⟨b', o' + j, none⟩ = some (.string gl[j])) := fun j hj h => hC.out j (by omega) h
          have hk0 : (0 : Int) ≤ (k : Int) := by omega
          have hk1 : (k : Int) < (gl.length : Int) := by omega
          clear hC
          obtain ⟨s, hs⟩ : ∃ s, gl[k] = s := ⟨_, rfl⟩
          rw [hs] at d0 HT1
          clear hs
          rcases em_cases s with ⟨rfl, -⟩ | ⟨q, -⟩
          · obtain ⟨v', hy', hrow', -⟩ := hO.out
            have HR2 := Lib.hid (show wr.ownsRow (Bx + 1) 9 1 v' (fl ++ nonE (gl.take (k + 1))).length ((fl ++ nonE (gl.take (k + 1))).map encStr) by rw [HT1.out, nonE_empty, List.append_nil]; exact hrow')
            have HY2 := Lib.hid hy'
            clear hrow' hy' hO HT1
            gi_wp2
            go_roundw
            case rel => exact ⟨k + 1, by omega, by go_num, ⟨v', HY2.out, HR2.out, fun h => by omega⟩, hQ, HC2⟩
            case measure => simp [intOf]; omega
          · obtain ⟨v', hy', hrow', how'⟩ := hO.out
            obtain ⟨A1, c1, rfl, -⟩ := own_formC hrow'
            have cY := hy'.cell
            have fY := hy'.frozen
            have HY2 := Lib.hid hy'
            have HR2 := Lib.hid hrow'
            have HOW2 := Lib.hid how'
            have hwX : X.heap.size ≤ wr.heap.size := hQ.out.2.below.size
            have hll : (fl ++ nonE (gl.take k)).length ≤ 1802 := by
              have h1 := nonE_len (gl.take k)
              rw [List.length_append]
              rw [List.length_take] at h1
              omega
            have HE1 := Lib.hid (show (fl ++ nonE (gl.take (k + 1))) = (fl ++ nonE (gl.take k)) ++ [s.data.toList] by rw [HT1.out, nonE_one q, List.append_assoc])
            clear hrow' hy' hO HT1 how'
            generalize fl ++ nonE (gl.take k) = cur at *
            gi_wp2_with (gi_at_builtin; refine wpListIn_append_own _ rfl _ _ 42 rfl (Bx + 1) 9 i0 (.string ⟨#[]⟩) 1 16 Tryz.underlying42 hi hz0 hz1 hz2 rfl (by decide) _ _ _ rfl (HR2.out.alloc _) ⟨wr.heap.size, 0, none⟩ 1 1 [.string s] rfl rfl (cell_one_new _ _ _) (by simp [Value.oneCell']) (by unfold maxLen; omega) (by omega) (by simp; omega) ?_; intro v2 w3 hown' hgrow _; obtain ⟨g', cap', rfl⟩ := ownsRow_succ hown'; have HAP := Lib.hid (appS (n₀ := w.heap.size) (B := Bx + 1) (x := none) (by omega) (by omega) (Nat.le_refl _) HY2.out (by decide) HR2.out (by omega) hown' hgrow); have c2' := HAP.out.1.cell; have f2' := HAP.out.1.frozen; have HG3 := Lib.hid hgrow; clear hown' hgrow)
            go_roundw
            case rel =>
              refine ⟨k + 1, by omega, by go_num, ⟨_, HAP.out.2.1, ?_, fun h => by omega⟩, ⟨?_, hQ.out.2.trans HAP.out.2.2.2⟩, fun j hj h => ?_⟩
              · have := HAP.out.2.2.1
                rw [HE1.out, List.length_append, List.map_append]
                simpa [encStr_data] using this
              · exact (HG3.out.block _ (by have := hQ.out.1.lt; simp; omega) (fun e => by
                  have h1 := (HR2.out.lt _ e.symm).1
                  omega)).trans (hQ.out.1.alloc _) |> fun h => (Below.heap_setCell w3 ⟨Bx, 0, none⟩ _ _ (by show w.heap.size + 1 ≠ Bx; omega)).trans h
              · obtain ⟨b', o', h1, h2, h3⟩ := HC2.out j hj h
                refine ⟨b', o', h1, h2, ?_⟩
                have hbl : b' < wr.heap.size := (spot_none h3).2
                have hk00 : k = 0 := by omega
                have e1 : w3.heap[b']? = wr.heap[b']? := (HG3.out.block b' (by simp; omega) (fun e => by have := HOW2.out hk00 b' e.symm; omega)).trans (Below.heap_alloc wr _ b' hbl)
                have e2 : (w3.setCell ⟨Bx, 0, none⟩ (.slice (some ⟨g', 0, none⟩) (cur.length + 1) cap')).heap[b']? = wr.heap[b']? := (Below.heap_setCell w3 ⟨Bx, 0, none⟩ _ b' (by show b' ≠ Bx; omega)).trans e1
                rw [← h3]
                unfold World.cell?
                rw [e2]
            case measure => simp [intOf]; omega
        · obtain rfl : k = gl.length := by omega
          obtain ⟨v', hy', hrow', -⟩ := hO.out
          rw [List.take_length] at hrow'
          have HR2 := Lib.hid hrow'
          have HY2 := Lib.hid hy'
          clear hrow' hy' hO hC
          gi_wp2
          exact ⟨hQ.out.2, ⟨v', HY2.out, by rw [HD.out]; exact HR2.out, trivial⟩, hQ.out.1, HBX.out.trans hQ.out.2.below⟩
    case done =>
      rintro D X hD ⟨⟨v, hy, hrow, -⟩, hf, hB⟩ hK
      have hlen : (flN parL (T.nod 1)).length ≤ 1800 := by
        have h1 := flN_len parL hG (T.nod 1)
        rw [Ct.nod_len] at h1
        have h3 := Ct.num_le_siz T
        omega
      have hN : nms parL T = Lib.compact ((flN parL (T.nod 1)).mergeSort fun x y => decide (x ≤ y)) := rfl
      generalize flN parL (T.nod 1) = fl at *
      have HN := Lib.hid hN
      have hX : Bx + 1 ≤ X.heap.size := hy.lt
      have HS1 := Lib.hid (sortS_own (Bx + 1) v fl.length fl X hrow hX (by omega))
      obtain ⟨A1, c1, rfl, -⟩ := own_formC hrow
      have cY := hy.cell
      have HK := Lib.hid hK
      have HY := Lib.hid hy
      have HB := Lib.hid hB
      clear hN hK hy hB hf hrow
      gi_wp2_with (first
        | (refine ⟨trivial, ?_⟩; gi_at_call 91; refine (callsIn_wide.2 HS1.out).mono ?_; rintro e Y ⟨rfl, hr2, hb2, hk2⟩; have c2 : Y.cell? ⟨Bx, 0, none⟩ = some (.slice A1 fl.length c1) := (hb2.cell (p := ⟨Bx, 0, none⟩) (by show Bx < Bx + 1; omega)).trans cY; have HS2 := Lib.hid (compactS_own (Bx + 1) _ fl.length (fl.mergeSort fun x y => decide (x ≤ y)) Y hr2 (Nat.le_trans hX hb2.size) (by omega)); have HB2 := Lib.hid hb2; have HK2 := Lib.hid hk2; clear hr2 hb2 hk2)
        | (refine ⟨trivial, ?_⟩; gi_at_call 92; refine (callsIn_wide.2 HS2.out).mono ?_; rintro e Z ⟨v2, rfl, hr3, hb3, hk3⟩))
      have k3 : Z.heap[D]? = some (.deferred (some [])) := hk3.same D _ (HK2.out.same D _ HK.out rfl) rfl
      refine ⟨by simp, .inl ⟨_, _, rfl, run_takeDeferred k3, ?_⟩⟩
      exact ⟨_, results_tmp2 rfl _ _ _, .inr ⟨by first | exact trivial | rfl, _, rfl, by rw [HN.out]; exact ownsRow_putObj (own_lowC hr3 (by omega)) _ k3 rfl⟩, bel_put (HB.out.trans ((HB2.out.mono (by omega)).trans (hb3.mono (by omega)))) (by omega) k3⟩
    case stop =>
      rintro D c pre X hD hp h hK
      exact h.elim
  · have hR1 : (R != 0) = true := by rw [bne_iff_ne]; exact hR
    refine callsIn_of_wp_marks Tryz.func61 rfl trivial ?_ rfl
    simp only [Tryz.ntmps61, List.size_toArray, List.length_cons, List.length_nil, Nat.reduceAdd, Nat.reduceSub, Array.replicate_succ, Array.replicate_zero, List.push_toArray, List.append_toArray, List.nil_append, List.cons_append]
    gi_wp2_with (refine ⟨trivial, ?_⟩; gi_at_call 11; refine (callsIn_wide.2 HQ1.out).mono ?_; rintro e w2 ⟨rfl, hb⟩; have HB2 := Lib.hid hb; clear hb)
    exact ⟨_, results_tmp2 rfl _ _ _, .inl ⟨hR, rfl⟩, hb1.trans (HB2.out.mono hb1.size)⟩
end Go.Proofs.YtalejbabhjlehaaGreatDoor
/- Layer 9: Parties and Currencies; the laws' own functions; SameStrings. -/
namespace Go.Proofs.YtalejbabhjlehaaGreatDoor
open Go Go.RowKit Go.BigFrame Go.Sort
def PartiesR (T : Ct) (w : World) (e : Ending) (w' : World) : Prop := (T.chk ≠ 0 ∧ e = .returned (.tuple #[.slice none 0 0, .int .i64 T.chk]) ∨ T.chk = 0 ∧ ∃ A c, e = .returned (.tuple #[.slice A (nms parL T).length c, .int .i64 0]) ∧ w'.ownsRow w.heap.size 9 1 (.slice A (nms parL T).length c) (nms parL T).length ((nms parL T).map encStr)) ∧ Below w.heap.size w w'
set_option maxRecDepth 100000 in
set_option maxHeartbeats 1000000 in
theorem parties_any (T : Ct) (w : World) (hT : T.In w) (hz : T.siz ≤ 900) (hby : T.Byt) (hv : VarR w) : Calls Tryz.prog 26 #[T.val] w (PartiesR T w) := by
  obtain ⟨w1, hw1⟩ : ∃ w1, w.alloc (.cells #[.int .u8 T.k, .string T.f, .string T.t, .string T.n, .int .u8 T.x.k, .string T.x.r, .string T.x.n, .int .i64 T.x.d, .slice T.x.A T.x.sub.length T.x.c, .int .i64 T.d, .slice T.DA T.dl.length T.dc, .slice T.A T.sub.length T.c] 32) = w1 := ⟨_, rfl⟩
  have HB1 := Lib.hid (show Below w.heap.size w w1 by rw [← hw1]; exact belO w _)
  have hx : Ct.Box w1 w.heap.size T := by rw [← hw1]; exact Ct.Box.new w T 32
  obtain ⟨c0, c1, c2, c3, c4, c5, c6, c7, c8, c9, c10, c11⟩ := hx
  have HQ := Lib.hid (namesP_any (fun u => by first | exact Nat.le_refl _ | (unfold curL; split <;> simp)) T w1 (hT.below HB1.out) hz hby (hv.below HB1.out) (fun u W => parties1_any u W))
  clear hT hby hv
  show Calls Tryz.prog 26 #[.agg #[.int .u8 T.k, .string T.f, .string T.t, .string T.n, .int .u8 T.x.k, .string T.x.r, .string T.x.n, .int .i64 T.x.d, .slice T.x.A T.x.sub.length T.x.c, .int .i64 T.d, .slice T.DA T.dl.length T.dc, .slice T.A T.sub.length T.c]] w _
  generalize hR : T.chk = R at *
  go_enter Tryz.func26, Tryz.ntmps26
  go_wp2_with (go_at_call 61; ((with_reducible refine HQ.out.mono ?_); rintro e w2 ⟨⟨h0, rfl⟩ | ⟨h0, v, rfl, ho⟩, hb⟩))
  · go_ret2
    exact ⟨.inl ⟨by rw [hR]; exact h0, by rw [hR]; rfl⟩, btO HB1.out hb⟩
  · obtain ⟨A, c, rfl, -⟩ := own_formC ho
    go_ret2
    exact ⟨.inr ⟨by rw [hR]; exact h0, _, _, rfl, own_lowC ho HB1.out.size⟩, btO HB1.out hb⟩
def StrR9 (w : World) (A : Option Addr) (l : List ByteArray) : Prop := ∀ j, j < l.length → ∃ b o, A = some ⟨b, o, none⟩ ∧ w.cell? ⟨b, o + j, none⟩ = some (.string (l.getD j ⟨#[]⟩))
theorem StrR9.below {w w' : World} {A : Option Addr} {l : List ByteArray} (h : StrR9 w A l) (hb : Below w.heap.size w w') : StrR9 w' A l := fun j hj => by
  obtain ⟨b, o, h1, h2⟩ := h j hj
  exact ⟨b, o, h1, cellO hb h2⟩
theorem own_strR {w : World} {base : Nat} {A : Option Addr} {c : Nat} {zs : List (List UInt8)} (h : w.ownsRow base 9 1 (.slice A zs.length c) zs.length (zs.map encStr)) : StrR9 w A (zs.map (fun z => ⟨z.toArray⟩)) := by
  intro j hj
  rw [List.length_map] at hj
  rcases h.2 with ⟨e, h0⟩ | ⟨g, cap, cur, hv, hb, hh, hn, hc, hs, ht⟩
  · omega
  · injection hv with h1 h2 h3
    refine ⟨g, 0, h1, ?_⟩
    rw [Nat.zero_add]
    refine blk_cell hh ?_
    rw [Nat.mul_one] at ht
    have h4 : (cur.toList.take zs.length)[j]? = (zs.map encStr)[j]? := by rw [ht]
    rw [List.getElem?_take_of_lt hj, Array.getElem?_toList] at h4
    rw [h4]
    simp [hj]
theorem ext_str {l m : List ByteArray} (hl : l.length = m.length) (h : ∀ j, j < l.length → l.getD j ⟨#[]⟩ = m.getD j ⟨#[]⟩) : l = m := by
  refine List.ext_getElem hl fun i h1 h2 => ?_
  have := h i h1
  rw [List.getD_eq_getElem?_getD, List.getD_eq_getElem?_getD, List.getElem?_eq_getElem h1, List.getElem?_eq_getElem h2] at this
  exact this
set_option maxRecDepth 100000 in
set_option maxHeartbeats 1600000 in
theorem sameStr_any (A B : Option Addr) (c c' : Nat) (xs ys : List ByteArray) (r : Bool) (hr : decide (xs = ys) = r) (hl : xs.length ≤ 1000000) (w : World) (hA : StrR9 w A xs) (hB : StrR9 w B ys) :
    Calls Tryz.prog 31 #[.slice A xs.length c, .slice B ys.length c'] w (BoolRO r w) := by
  have mixed : Tryz.prog.follows Departure.mixedOrders = true := by kernel_rfl
  by_cases hlen : xs.length = ys.length
  · have HE : Hid (r = true ↔ ∀ j, j < xs.length → xs.getD j ⟨#[]⟩ = ys.getD j ⟨#[]⟩) := by
      show _ ↔ _
      rw [← hr, decide_eq_true_iff]
      exact ⟨fun h j _ => by rw [h], fun h => ext_str hlen h⟩
    rw [← hlen]
    have HA := Lib.hid hA
    have HB := Lib.hid hB
    have HL := Lib.hid hlen
    obtain ⟨N, hN⟩ : ∃ N, xs.length = N := ⟨_, rfl⟩
    rw [hN] at hl HE ⊢
    have HN := Lib.hid hN
    clear hA hB hr hlen hN
    go_enter Tryz.func31, Tryz.ntmps31
    go_wp2_with (fail)
    go_loopw [5] (fun i wr => ∃ k : Nat, k ≤ N ∧ i = .int .i64 k ∧ Hid (∀ j, j < k → xs.getD j ⟨#[]⟩ = ys.getD j ⟨#[]⟩) ∧ Hid (Below w.heap.size w wr)) (fun i _ => N - (intOf i).toNat)
    case atStart => exact ⟨0, by omega, rfl, fun j h => by omega, Below.refl _ _⟩
    case round =>
      obtain ⟨k, hk, rfl, HI, HW⟩ := hrel
      by_cases hlt : k < N
      · obtain ⟨b, o, rfl, d0⟩ := (HA.out.below HW.out) k (by rw [HN.out]; exact hlt)
        obtain ⟨b', o', rfl, d1⟩ := (HB.out.below HW.out) k (by rw [← HL.out, HN.out]; exact hlt)
        have hk0 : (0 : Int) ≤ (k : Int) := by omega
        have hk1 : (k : Int) < (N : Int) := by omega
        have HX : Hid (xs.getD k ⟨#[]⟩ = ys.getD k ⟨#[]⟩ → ∀ j, j < k + 1 → xs.getD j ⟨#[]⟩ = ys.getD j ⟨#[]⟩) := fun g j hj => by
          rcases Nat.lt_or_ge j k with q | q
          · exact HI.out j q
          · obtain rfl : j = k := by omega
            exact g
        have HY : Hid (xs.getD k ⟨#[]⟩ ≠ ys.getD k ⟨#[]⟩ → r = false) := fun g => by
          cases r
          · rfl
          · exact absurd (HE.out.1 rfl k hlt) g
        clear HA HB HE HI
        generalize xs.getD k ⟨#[]⟩ = x at *
        generalize ys.getD k ⟨#[]⟩ = y at *
        rcases str_cases x y with rfl | g1
        · have HX2 := Lib.hid (HX.out rfl)
          clear HX HY
          go_wp2_with (fail)
          have z0 := fun z : Bel wr => z.cell d0
          have z1 := fun z : Bel wr => z.cell d1
          refine wp_region_bel (by kernel_rfl) (by kernel_rfl) ?_
          repeat (go_big_quiet_step (fail))
          refine wpQuiet_nil ?_
          rintro _ ⟨zz, rfl⟩
          have HW2 := Lib.hid (btO HW.out zz.2)
          generalize zz.1 = w6 at *
          clear z0 z1 d0 d1
          go_wp2_with (fail)
          go_roundw
          case rel => exact ⟨k + 1, by omega, by go_num, HX2, HW2⟩
          case measure => simp [intOf]; omega
        · obtain rfl := HY.out (str_neS g1)
          clear HX HY
          go_wp2_with (fail)
          have z0 := fun z : Bel wr => z.cell d0
          have z1 := fun z : Bel wr => z.cell d1
          refine wp_region_bel (by kernel_rfl) (by kernel_rfl) ?_
          repeat (go_big_quiet_step (fail))
          refine wpQuiet_nil ?_
          rintro _ ⟨zz, rfl⟩
          have HW2 := Lib.hid (btO HW.out zz.2)
          generalize zz.1 = w6 at *
          clear z0 z1 d0 d1
          go_wp2_with (fail)
          go_ret
          exact ⟨rfl, HW2.out⟩
      · obtain rfl : k = N := by omega
        obtain rfl : r = true := HE.out.2 HI.out
        clear HE HI HA HB
        go_wp2_with (fail)
        go_ret
        exact ⟨rfl, HW.out⟩
  · have h1 : ((xs.length : Int) != (ys.length : Int)) = true := by rw [bne_iff_ne]; omega
    obtain rfl : r = false := by rw [← hr, decide_eq_false_iff_not]; exact fun g => hlen (by rw [g])
    clear hr hA hB
    go_enter Tryz.func31, Tryz.ntmps31
    go_wp2_with (fail)
    go_ret
    exact ⟨rfl, Below.refl _ _⟩
theorem blk_frz {W : World} {b j : Nat} {cs : Array Value} {ty : TypeId} (h : W.heap[b]? = some (.cells cs ty (0, 0))) : W.frozen? ⟨b, j, none⟩ = false := by simp [World.frozen?, h]
set_option maxRecDepth 100000 in
theorem sc12_row {w : World} {q : Nat} {a0 a1 a2 a3 a4 a5 a6 a7 a8 a9 a10 a11 v0 v1 v2 v3 v4 v5 v6 v7 v8 v9 v10 v11 : Value} {t : TypeId} (h : w.heap[q]? = some (.cells #[a0, a1, a2, a3, a4, a5, a6, a7, a8, a9, a10, a11] t (0, 0))) : ((((((((((((w.setCell ⟨q, 0, none⟩ v0).setCell ⟨q, 1, none⟩ v1).setCell ⟨q, 2, none⟩ v2).setCell ⟨q, 3, none⟩ v3).setCell ⟨q, 4, none⟩ v4).setCell ⟨q, 5, none⟩ v5).setCell ⟨q, 6, none⟩ v6).setCell ⟨q, 7, none⟩ v7).setCell ⟨q, 8, none⟩ v8).setCell ⟨q, 9, none⟩ v9).setCell ⟨q, 10, none⟩ v10).setCell ⟨q, 11, none⟩ v11).heap[q]? = some (.cells #[v0, v1, v2, v3, v4, v5, v6, v7, v8, v9, v10, v11] t (0, 0)) := by
  simp [World.setCell, Array.getElem?_modify, h]
theorem sc12_bel {w0 w : World} {v0 v1 v2 v3 v4 v5 v6 v7 v8 v9 v10 v11 : Value} (h : Below w0.heap.size w0 w) : Below w0.heap.size w0 ((((((((((((w.setCell ⟨w0.heap.size, 0, none⟩ v0).setCell ⟨w0.heap.size, 1, none⟩ v1).setCell ⟨w0.heap.size, 2, none⟩ v2).setCell ⟨w0.heap.size, 3, none⟩ v3).setCell ⟨w0.heap.size, 4, none⟩ v4).setCell ⟨w0.heap.size, 5, none⟩ v5).setCell ⟨w0.heap.size, 6, none⟩ v6).setCell ⟨w0.heap.size, 7, none⟩ v7).setCell ⟨w0.heap.size, 8, none⟩ v8).setCell ⟨w0.heap.size, 9, none⟩ v9).setCell ⟨w0.heap.size, 10, none⟩ v10).setCell ⟨w0.heap.size, 11, none⟩ v11) := by
  have hle := Nat.le_refl w0.heap.size
  exact (((((((((((h.setCell (p := ⟨w0.heap.size, 0, none⟩) hle _).setCell (p := ⟨w0.heap.size, 1, none⟩) hle _).setCell (p := ⟨w0.heap.size, 2, none⟩) hle _).setCell (p := ⟨w0.heap.size, 3, none⟩) hle _).setCell (p := ⟨w0.heap.size, 4, none⟩) hle _).setCell (p := ⟨w0.heap.size, 5, none⟩) hle _).setCell (p := ⟨w0.heap.size, 6, none⟩) hle _).setCell (p := ⟨w0.heap.size, 7, none⟩) hle _).setCell (p := ⟨w0.heap.size, 8, none⟩) hle _).setCell (p := ⟨w0.heap.size, 9, none⟩) hle _).setCell (p := ⟨w0.heap.size, 10, none⟩) hle _).setCell (p := ⟨w0.heap.size, 11, none⟩) hle _
def Vl9R (v : Value) (w : World) (e : Ending) (w' : World) : Prop := e = .returned v ∧ Below w.heap.size w w'
def oneX : Ex := .mk 1 ⟨#[49]⟩ ⟨#[]⟩ 0 none 0 []
def zeroT : Ct := .mk 1 ⟨#[]⟩ ⟨#[]⟩ ⟨#[]⟩ zeE 0 none [] 0 none 0 []
def payT (f t n : ByteArray) : Ct := .mk 2 f t n oneX 0 none [] 0 none 0 []
set_option maxRecDepth 100000 in
theorem one9_any (w : World) : Calls Tryz.prog 42 #[] w (Vl9R oneX.val w) := by
  have HB := Lib.hid (belO w (.cells #[.int .u8 1, .string ⟨#[49]⟩, .string ⟨#[]⟩, .int .i64 0, .slice none 0 0] 29))
  go_enter Tryz.func42, Tryz.ntmps42
  go_wp2_with (fail)
  refine bodyPost_ret (results_cell_row rfl _ _ w.heap.size 29 _ (0, 0) _ rfl (heap_alloc_new w _) Tryz.underlying29 (by kernel_rfl) (by kernel_rfl)) rfl ?_
  exact ⟨rfl, HB.out⟩
set_option maxRecDepth 100000 in
theorem zero9_any (w : World) : Calls Tryz.prog 13 #[] w (Vl9R zeroT.val w) := by
  have HB := Lib.hid (belO w (.cells #[.int .u8 1, .string ⟨#[]⟩, .string ⟨#[]⟩, .string ⟨#[]⟩, .int .u8 0, .string ⟨#[]⟩, .string ⟨#[]⟩, .int .i64 0, .slice none 0 0, .int .i64 0, .slice none 0 0, .slice none 0 0] 32))
  go_enter Tryz.func13, Tryz.ntmps13
  go_wp2_with (fail)
  refine bodyPost_ret (results_cell_row rfl _ _ w.heap.size 32 _ (0, 0) _ rfl (heap_alloc_new w _) Tryz.underlying32 (by kernel_rfl) (by kernel_rfl)) rfl ?_
  exact ⟨rfl, HB.out⟩
set_option maxRecDepth 100000 in
set_option maxHeartbeats 1000000 in
theorem pay9_any (f t n : ByteArray) (w : World) : Calls Tryz.prog 14 #[.string f, .string t, .string n] w (Vl9R (payT f t n).val w) := by
  have HO := Lib.hid (one9_any)
  have HR := Lib.hid (heap_alloc_new w (.cells #[.int .u8 0, .string ⟨#[]⟩, .string ⟨#[]⟩, .string ⟨#[]⟩, .int .u8 0, .string ⟨#[]⟩, .string ⟨#[]⟩, .int .i64 0, .slice none 0 0, .int .i64 0, .slice none 0 0, .slice none 0 0] 32))
  have HB := Lib.hid (belO w (.cells #[.int .u8 0, .string ⟨#[]⟩, .string ⟨#[]⟩, .string ⟨#[]⟩, .int .u8 0, .string ⟨#[]⟩, .string ⟨#[]⟩, .int .i64 0, .slice none 0 0, .int .i64 0, .slice none 0 0, .slice none 0 0] 32))
  go_enter Tryz.func14, Tryz.ntmps14
  go_wp2_with (go_at_call 42; ((with_reducible refine (HO.out _).mono ?_); rintro e w2 ⟨rfl, hb⟩; have r1 := (hb.block _ (lt_of_block HR.out)).trans HR.out; have c0 := blk_cell (j := 0) r1 rfl; have f0 := blk_frz (j := 0) r1; have c1 := blk_cell (j := 1) r1 rfl; have f1 := blk_frz (j := 1) r1; have c2 := blk_cell (j := 2) r1 rfl; have f2 := blk_frz (j := 2) r1; have c3 := blk_cell (j := 3) r1 rfl; have f3 := blk_frz (j := 3) r1; have c4 := blk_cell (j := 4) r1 rfl; have f4 := blk_frz (j := 4) r1; have c5 := blk_cell (j := 5) r1 rfl; have f5 := blk_frz (j := 5) r1; have c6 := blk_cell (j := 6) r1 rfl; have f6 := blk_frz (j := 6) r1; have c7 := blk_cell (j := 7) r1 rfl; have f7 := blk_frz (j := 7) r1; have c8 := blk_cell (j := 8) r1 rfl; have f8 := blk_frz (j := 8) r1; have c9 := blk_cell (j := 9) r1 rfl; have f9 := blk_frz (j := 9) r1; have c10 := blk_cell (j := 10) r1 rfl; have f10 := blk_frz (j := 10) r1; have c11 := blk_cell (j := 11) r1 rfl; have f11 := blk_frz (j := 11) r1; have HR2 := Lib.hid r1; have HB2 := Lib.hid (btO HB.out hb); clear hb r1))
  refine bodyPost_ret (results_cell_row rfl _ _ w.heap.size 32 _ (0, 0) _ rfl (sc12_row HR2.out) Tryz.underlying32 (by kernel_rfl) (by kernel_rfl)) rfl ?_
  exact ⟨rfl, sc12_bel HB2.out⟩
end Go.Proofs.YtalejbabhjlehaaGreatDoor
/- Layer 9: the laws' own function alive. -/
namespace Go.Proofs.YtalejbabhjlehaaGreatDoor
open Go Go.RowKit Go.BigFrame Go.Sort
def pA : Ct := payT ⟨#[65, 110, 110]⟩ ⟨#[66, 111, 98]⟩ ⟨#[85, 83, 68]⟩
theorem ex_in0 (k : Int) (r : ByteArray) (h0 : 0 ≤ k) (h1 : k ≤ 255) (hr : r.size ≤ 140737488351232) (w : World) : Ex.In w (.mk k r ⟨#[]⟩ 0 none 0 []) := by
  rw [Ex.in_mk]
  exact ⟨⟨h0, h1, by show -9223372036854775808 ≤ (0 : Int); decide, by show (0 : Int) ≤ 9223372036854775807; decide, hr, Nat.zero_le _, Nat.le_refl _, Nat.zero_le _, fun _ => rfl⟩, fun j hj => by simp at hj⟩
theorem pA_in (w : World) : pA.In w := by
  unfold pA payT
  rw [Ct.in_mk]
  exact ⟨⟨by show (0 : Int) ≤ 2; decide, by show (2 : Int) ≤ 255; decide, by show -9223372036854775808 ≤ (0 : Int); decide, by show (0 : Int) ≤ 9223372036854775807; decide, by show 3 ≤ 140737488351232; decide, by show 3 ≤ 140737488351232; decide, by show 3 ≤ 140737488351232; decide, Nat.le_refl _, Nat.zero_le _, fun _ => rfl, (fun v hv => by cases hv), Nat.le_refl _, Nat.zero_le _, fun _ => rfl⟩, ex_in0 1 _ (by decide) (by decide) (by show 1 ≤ 140737488351232; decide) w, fun j hj => by simp at hj, fun j hj => by simp at hj⟩
theorem zeroT_in (w : World) : zeroT.In w := by
  unfold zeroT
  rw [Ct.in_mk]
  exact ⟨⟨by show (0 : Int) ≤ 1; decide, by show (1 : Int) ≤ 255; decide, by show -9223372036854775808 ≤ (0 : Int); decide, by show (0 : Int) ≤ 9223372036854775807; decide, Nat.zero_le _, Nat.zero_le _, Nat.zero_le _, Nat.le_refl _, Nat.zero_le _, fun _ => rfl, (fun v hv => by cases hv), Nat.le_refl _, Nat.zero_le _, fun _ => rfl⟩, zeE_in w, fun j hj => by simp at hj, fun j hj => by simp at hj⟩
def bothT (A : Option Addr) (x y : Ct) : Ct := .mk 3 ⟨#[]⟩ ⟨#[]⟩ ⟨#[]⟩ zeE 0 none [] 0 A 2 [x, y]
theorem bothT_in {w : World} {b : Nat} {x y : Ct} (hx : x.In w) (hy : y.In w) (h : w.heap[b]? = some (.cells #[.int .u8 x.k, .string x.f, .string x.t, .string x.n, .int .u8 x.x.k, .string x.x.r, .string x.x.n, .int .i64 x.x.d, .slice x.x.A x.x.sub.length x.x.c, .int .i64 x.d, .slice x.DA x.dl.length x.dc, .slice x.A x.sub.length x.c, .int .u8 y.k, .string y.f, .string y.t, .string y.n, .int .u8 y.x.k, .string y.x.r, .string y.x.n, .int .i64 y.x.d, .slice y.x.A y.x.sub.length y.x.c, .int .i64 y.d, .slice y.DA y.dl.length y.dc, .slice y.A y.sub.length y.c] 32 (0, 0))) : (bothT (some ⟨b, 0, none⟩) x y).In w := by
  unfold bothT
  rw [Ct.in_mk]
  refine ⟨⟨by show (0 : Int) ≤ 3; decide, by show (3 : Int) ≤ 255; decide, by show -9223372036854775808 ≤ (0 : Int); decide, by show (0 : Int) ≤ 9223372036854775807; decide, Nat.zero_le _, Nat.zero_le _, Nat.zero_le _, Nat.le_refl _, Nat.zero_le _, fun _ => rfl, (fun v hv => by cases hv), by show 2 ≤ 2; decide, by show 2 ≤ 140737488351232; decide, fun h => by cases h⟩, zeE_in w, fun j hj => by simp at hj, fun j hj => ?_⟩
  have hj : j < 2 := hj
  rcases (show j = 0 ∨ j = 1 by omega) with rfl | rfl
  · refine ⟨⟨b, 0, rfl, lt_of_block h, fun i v hv => ?_⟩, hx⟩
    have hi : i < 12 := (List.getElem?_eq_some_iff.1 hv).1
    rcases (show i = 0 ∨ i = 1 ∨ i = 2 ∨ i = 3 ∨ i = 4 ∨ i = 5 ∨ i = 6 ∨ i = 7 ∨ i = 8 ∨ i = 9 ∨ i = 10 ∨ i = 11 by omega) with rfl | rfl | rfl | rfl | rfl | rfl | rfl | rfl | rfl | rfl | rfl | rfl <;> exact blk_cell h hv
  · refine ⟨⟨b, 0, rfl, lt_of_block h, fun i v hv => ?_⟩, hy⟩
    have hi : i < 12 := (List.getElem?_eq_some_iff.1 hv).1
    rcases (show i = 0 ∨ i = 1 ∨ i = 2 ∨ i = 3 ∨ i = 4 ∨ i = 5 ∨ i = 6 ∨ i = 7 ∨ i = 8 ∨ i = 9 ∨ i = 10 ∨ i = 11 by omega) with rfl | rfl | rfl | rfl | rfl | rfl | rfl | rfl | rfl | rfl | rfl | rfl <;> exact blk_cell h hv
theorem p_chk : pA.siz = 2 ∧ pA.dep = 2 := by decide +kernel
theorem b_chk (A : Option Addr) : (bothT A pA zeroT).siz = 4 ∧ (bothT A pA zeroT).dep = 3 ∧ (bothT A pA zeroT).chk = 0 := ⟨by kernel_rfl, by kernel_rfl, by kernel_rfl⟩
theorem b_fl (A : Option Addr) : flN parL ((bothT A pA zeroT).nod 1) = [[65, 110, 110], [66, 111, 98]] := by kernel_rfl
theorem b_byt (A : Option Addr) : (bothT A pA zeroT).Byt := by
  have h : (bothT A pA zeroT).all.all (fun u => decide (u.x.byt ≤ 12000)) = true := by kernel_rfl
  intro u hu
  have := List.all_eq_true.1 h u hu
  simpa using this
theorem sc12_oth {w : World} {q r : Nat} {v0 v1 v2 v3 v4 v5 v6 v7 v8 v9 v10 v11 : Value} (h : q ≠ r) : ((((((((((((w.setCell ⟨q, 0, none⟩ v0).setCell ⟨q, 1, none⟩ v1).setCell ⟨q, 2, none⟩ v2).setCell ⟨q, 3, none⟩ v3).setCell ⟨q, 4, none⟩ v4).setCell ⟨q, 5, none⟩ v5).setCell ⟨q, 6, none⟩ v6).setCell ⟨q, 7, none⟩ v7).setCell ⟨q, 8, none⟩ v8).setCell ⟨q, 9, none⟩ v9).setCell ⟨q, 10, none⟩ v10).setCell ⟨q, 11, none⟩ v11).heap[r]? = w.heap[r]? := by
  simp [World.setCell, Array.getElem?_modify, h]
theorem b_nms (A : Option Addr) : nms parL (bothT A pA zeroT) = [[65, 110, 110], [66, 111, 98]] := by
  unfold nms
  rw [b_fl, List.mergeSort_of_pairwise (by
    refine List.Pairwise.cons ?_ (List.Pairwise.cons (fun _ h => by cases h) List.Pairwise.nil)
    intro a ha
    rw [List.mem_singleton] at ha
    subst ha
    decide)]
  decide +kernel
set_option maxRecDepth 100000 in
set_option maxHeartbeats 6400000 in
theorem alive9_any (w : World) (hv : VarR w) : Calls Tryz.prog 16 #[] w (BoolRO true w) := by
  have mixed : Tryz.prog.follows Departure.mixedOrders = true := by kernel_rfl
  have HP := Lib.hid (show ∀ w, Calls Tryz.prog 14 #[.string ⟨#[65, 110, 110]⟩, .string ⟨#[66, 111, 98]⟩, .string ⟨#[85, 83, 68]⟩] w (Vl9R (.agg #[.int .u8 2, .string ⟨#[65, 110, 110]⟩, .string ⟨#[66, 111, 98]⟩, .string ⟨#[85, 83, 68]⟩, .int .u8 1, .string ⟨#[49]⟩, .string ⟨#[]⟩, .int .i64 0, .slice none 0 0, .int .i64 0, .slice none 0 0, .slice none 0 0]) w) from pay9_any _ _ _)
  have HZ := Lib.hid (show ∀ w, Calls Tryz.prog 13 #[] w (Vl9R (.agg #[.int .u8 1, .string ⟨#[]⟩, .string ⟨#[]⟩, .string ⟨#[]⟩, .int .u8 0, .string ⟨#[]⟩, .string ⟨#[]⟩, .int .i64 0, .slice none 0 0, .int .i64 0, .slice none 0 0, .slice none 0 0]) w) from zero9_any)
  have HV := Lib.hid hv
  clear hv
  go_enter Tryz.func16, Tryz.ntmps16
  go_wp2_with (go_at_call 14; ((with_reducible refine (HP.out _).mono ?_); rintro e w2 ⟨rfl, hb⟩; have HB2 := Lib.hid hb; clear hb))
  have hr3 := heap_alloc_new w2 (.cells #[.int .u8 2, .string ⟨#[65, 110, 110]⟩, .string ⟨#[66, 111, 98]⟩, .string ⟨#[85, 83, 68]⟩, .int .u8 1, .string ⟨#[49]⟩, .string ⟨#[]⟩, .int .i64 0, .slice none 0 0, .int .i64 0, .slice none 0 0, .slice none 0 0] 32)
  have hb3 := belO w2 (.cells #[.int .u8 2, .string ⟨#[65, 110, 110]⟩, .string ⟨#[66, 111, 98]⟩, .string ⟨#[85, 83, 68]⟩, .int .u8 1, .string ⟨#[49]⟩, .string ⟨#[]⟩, .int .i64 0, .slice none 0 0, .int .i64 0, .slice none 0 0, .slice none 0 0] 32)
  obtain ⟨w3, hw3⟩ : ∃ w3, w2.alloc (.cells #[.int .u8 2, .string ⟨#[65, 110, 110]⟩, .string ⟨#[66, 111, 98]⟩, .string ⟨#[85, 83, 68]⟩, .int .u8 1, .string ⟨#[49]⟩, .string ⟨#[]⟩, .int .i64 0, .slice none 0 0, .int .i64 0, .slice none 0 0, .slice none 0 0] 32) = w3 := ⟨_, rfl⟩
  rw [hw3] at hr3 hb3 ⊢
  clear hw3
  have c0 : w3.cell? ⟨w2.heap.size, 0, none⟩ = some (.int .u8 2) := blk_cell (j := 0) hr3 rfl
  have a0 : ∀ o : Obj, (w3.alloc o).cell? ⟨w2.heap.size, 0, none⟩ = some (.int .u8 2) := (fun o => cellO (belO w3 o) c0)
  have c1 : w3.cell? ⟨w2.heap.size, 1, none⟩ = some (.string ⟨#[65, 110, 110]⟩) := blk_cell (j := 1) hr3 rfl
  have a1 : ∀ o : Obj, (w3.alloc o).cell? ⟨w2.heap.size, 1, none⟩ = some (.string ⟨#[65, 110, 110]⟩) := (fun o => cellO (belO w3 o) c1)
  have c2 : w3.cell? ⟨w2.heap.size, 2, none⟩ = some (.string ⟨#[66, 111, 98]⟩) := blk_cell (j := 2) hr3 rfl
  have a2 : ∀ o : Obj, (w3.alloc o).cell? ⟨w2.heap.size, 2, none⟩ = some (.string ⟨#[66, 111, 98]⟩) := (fun o => cellO (belO w3 o) c2)
  have c3 : w3.cell? ⟨w2.heap.size, 3, none⟩ = some (.string ⟨#[85, 83, 68]⟩) := blk_cell (j := 3) hr3 rfl
  have a3 : ∀ o : Obj, (w3.alloc o).cell? ⟨w2.heap.size, 3, none⟩ = some (.string ⟨#[85, 83, 68]⟩) := (fun o => cellO (belO w3 o) c3)
  have c4 : w3.cell? ⟨w2.heap.size, 4, none⟩ = some (.int .u8 1) := blk_cell (j := 4) hr3 rfl
  have a4 : ∀ o : Obj, (w3.alloc o).cell? ⟨w2.heap.size, 4, none⟩ = some (.int .u8 1) := (fun o => cellO (belO w3 o) c4)
  have c5 : w3.cell? ⟨w2.heap.size, 5, none⟩ = some (.string ⟨#[49]⟩) := blk_cell (j := 5) hr3 rfl
  have a5 : ∀ o : Obj, (w3.alloc o).cell? ⟨w2.heap.size, 5, none⟩ = some (.string ⟨#[49]⟩) := (fun o => cellO (belO w3 o) c5)
  have c6 : w3.cell? ⟨w2.heap.size, 6, none⟩ = some (.string ⟨#[]⟩) := blk_cell (j := 6) hr3 rfl
  have a6 : ∀ o : Obj, (w3.alloc o).cell? ⟨w2.heap.size, 6, none⟩ = some (.string ⟨#[]⟩) := (fun o => cellO (belO w3 o) c6)
  have c7 : w3.cell? ⟨w2.heap.size, 7, none⟩ = some (.int .i64 0) := blk_cell (j := 7) hr3 rfl
  have a7 : ∀ o : Obj, (w3.alloc o).cell? ⟨w2.heap.size, 7, none⟩ = some (.int .i64 0) := (fun o => cellO (belO w3 o) c7)
  have c8 : w3.cell? ⟨w2.heap.size, 8, none⟩ = some (.slice none 0 0) := blk_cell (j := 8) hr3 rfl
  have a8 : ∀ o : Obj, (w3.alloc o).cell? ⟨w2.heap.size, 8, none⟩ = some (.slice none 0 0) := (fun o => cellO (belO w3 o) c8)
  have c9 : w3.cell? ⟨w2.heap.size, 9, none⟩ = some (.int .i64 0) := blk_cell (j := 9) hr3 rfl
  have a9 : ∀ o : Obj, (w3.alloc o).cell? ⟨w2.heap.size, 9, none⟩ = some (.int .i64 0) := (fun o => cellO (belO w3 o) c9)
  have c10 : w3.cell? ⟨w2.heap.size, 10, none⟩ = some (.slice none 0 0) := blk_cell (j := 10) hr3 rfl
  have a10 : ∀ o : Obj, (w3.alloc o).cell? ⟨w2.heap.size, 10, none⟩ = some (.slice none 0 0) := (fun o => cellO (belO w3 o) c10)
  have c11 : w3.cell? ⟨w2.heap.size, 11, none⟩ = some (.slice none 0 0) := blk_cell (j := 11) hr3 rfl
  have a11 : ∀ o : Obj, (w3.alloc o).cell? ⟨w2.heap.size, 11, none⟩ = some (.slice none 0 0) := (fun o => cellO (belO w3 o) c11)
  go_region_law (first
      | (go_simp; go_at_call 13; refine (HZ.out _).mono ?_; rintro u w4 ⟨rfl, hb4⟩; have BW : Below w3.heap.size w3 w4 := (by (refine btO ?_ hb4; repeat (first | exact Below.refl _ _ | refine Below.drew ?_ | refine btO ?_ (belO _ _)))); have d0 : w4.cell? ⟨w2.heap.size, 0, none⟩ = some (.int .u8 2) := cellO BW c0; have e0 : ∀ o : Obj, (w4.alloc o).cell? ⟨w2.heap.size, 0, none⟩ = some (.int .u8 2) := (fun o => cellO (belO w4 o) d0); have d1 : w4.cell? ⟨w2.heap.size, 1, none⟩ = some (.string ⟨#[65, 110, 110]⟩) := cellO BW c1; have e1 : ∀ o : Obj, (w4.alloc o).cell? ⟨w2.heap.size, 1, none⟩ = some (.string ⟨#[65, 110, 110]⟩) := (fun o => cellO (belO w4 o) d1); have d2 : w4.cell? ⟨w2.heap.size, 2, none⟩ = some (.string ⟨#[66, 111, 98]⟩) := cellO BW c2; have e2 : ∀ o : Obj, (w4.alloc o).cell? ⟨w2.heap.size, 2, none⟩ = some (.string ⟨#[66, 111, 98]⟩) := (fun o => cellO (belO w4 o) d2); have d3 : w4.cell? ⟨w2.heap.size, 3, none⟩ = some (.string ⟨#[85, 83, 68]⟩) := cellO BW c3; have e3 : ∀ o : Obj, (w4.alloc o).cell? ⟨w2.heap.size, 3, none⟩ = some (.string ⟨#[85, 83, 68]⟩) := (fun o => cellO (belO w4 o) d3); have d4 : w4.cell? ⟨w2.heap.size, 4, none⟩ = some (.int .u8 1) := cellO BW c4; have e4 : ∀ o : Obj, (w4.alloc o).cell? ⟨w2.heap.size, 4, none⟩ = some (.int .u8 1) := (fun o => cellO (belO w4 o) d4); have d5 : w4.cell? ⟨w2.heap.size, 5, none⟩ = some (.string ⟨#[49]⟩) := cellO BW c5; have e5 : ∀ o : Obj, (w4.alloc o).cell? ⟨w2.heap.size, 5, none⟩ = some (.string ⟨#[49]⟩) := (fun o => cellO (belO w4 o) d5); have d6 : w4.cell? ⟨w2.heap.size, 6, none⟩ = some (.string ⟨#[]⟩) := cellO BW c6; have e6 : ∀ o : Obj, (w4.alloc o).cell? ⟨w2.heap.size, 6, none⟩ = some (.string ⟨#[]⟩) := (fun o => cellO (belO w4 o) d6); have d7 : w4.cell? ⟨w2.heap.size, 7, none⟩ = some (.int .i64 0) := cellO BW c7; have e7 : ∀ o : Obj, (w4.alloc o).cell? ⟨w2.heap.size, 7, none⟩ = some (.int .i64 0) := (fun o => cellO (belO w4 o) d7); have d8 : w4.cell? ⟨w2.heap.size, 8, none⟩ = some (.slice none 0 0) := cellO BW c8; have e8 : ∀ o : Obj, (w4.alloc o).cell? ⟨w2.heap.size, 8, none⟩ = some (.slice none 0 0) := (fun o => cellO (belO w4 o) d8); have d9 : w4.cell? ⟨w2.heap.size, 9, none⟩ = some (.int .i64 0) := cellO BW c9; have e9 : ∀ o : Obj, (w4.alloc o).cell? ⟨w2.heap.size, 9, none⟩ = some (.int .i64 0) := (fun o => cellO (belO w4 o) d9); have d10 : w4.cell? ⟨w2.heap.size, 10, none⟩ = some (.slice none 0 0) := cellO BW c10; have e10 : ∀ o : Obj, (w4.alloc o).cell? ⟨w2.heap.size, 10, none⟩ = some (.slice none 0 0) := (fun o => cellO (belO w4 o) d10); have d11 : w4.cell? ⟨w2.heap.size, 11, none⟩ = some (.slice none 0 0) := cellO BW c11; have e11 : ∀ o : Obj, (w4.alloc o).cell? ⟨w2.heap.size, 11, none⟩ = some (.slice none 0 0) := (fun o => cellO (belO w4 o) d11); (try (have hx : w4.heap[w3.heap.size]? = some (.cells #[.int .u8 0, .string ⟨#[]⟩, .string ⟨#[]⟩, .string ⟨#[]⟩, .int .u8 0, .string ⟨#[]⟩, .string ⟨#[]⟩, .int .i64 0, .slice none 0 0, .int .i64 0, .slice none 0 0, .slice none 0 0] 32 (0, 0)) := (hb4.block _ (by simp)).trans (heap_alloc_new _ _); have x0 : ∀ o : Obj, (w4.alloc o).cell? ⟨w3.heap.size, 0, none⟩ = some (.int .u8 0) := (fun o => cellO (belO w4 o) (blk_cell hx rfl)); have f0 : ∀ o : Obj, (w4.alloc o).frozen? ⟨w3.heap.size, 0, none⟩ = false := (fun o => blk_frz (j := 0) (((belO w4 o).block _ (lt_of_block hx)).trans hx)); have x1 : ∀ o : Obj, (w4.alloc o).cell? ⟨w3.heap.size, 1, none⟩ = some (.string ⟨#[]⟩) := (fun o => cellO (belO w4 o) (blk_cell hx rfl)); have f1 : ∀ o : Obj, (w4.alloc o).frozen? ⟨w3.heap.size, 1, none⟩ = false := (fun o => blk_frz (j := 1) (((belO w4 o).block _ (lt_of_block hx)).trans hx)); have x2 : ∀ o : Obj, (w4.alloc o).cell? ⟨w3.heap.size, 2, none⟩ = some (.string ⟨#[]⟩) := (fun o => cellO (belO w4 o) (blk_cell hx rfl)); have f2 : ∀ o : Obj, (w4.alloc o).frozen? ⟨w3.heap.size, 2, none⟩ = false := (fun o => blk_frz (j := 2) (((belO w4 o).block _ (lt_of_block hx)).trans hx)); have x3 : ∀ o : Obj, (w4.alloc o).cell? ⟨w3.heap.size, 3, none⟩ = some (.string ⟨#[]⟩) := (fun o => cellO (belO w4 o) (blk_cell hx rfl)); have f3 : ∀ o : Obj, (w4.alloc o).frozen? ⟨w3.heap.size, 3, none⟩ = false := (fun o => blk_frz (j := 3) (((belO w4 o).block _ (lt_of_block hx)).trans hx)); have x4 : ∀ o : Obj, (w4.alloc o).cell? ⟨w3.heap.size, 4, none⟩ = some (.int .u8 0) := (fun o => cellO (belO w4 o) (blk_cell hx rfl)); have f4 : ∀ o : Obj, (w4.alloc o).frozen? ⟨w3.heap.size, 4, none⟩ = false := (fun o => blk_frz (j := 4) (((belO w4 o).block _ (lt_of_block hx)).trans hx)); have x5 : ∀ o : Obj, (w4.alloc o).cell? ⟨w3.heap.size, 5, none⟩ = some (.string ⟨#[]⟩) := (fun o => cellO (belO w4 o) (blk_cell hx rfl)); have f5 : ∀ o : Obj, (w4.alloc o).frozen? ⟨w3.heap.size, 5, none⟩ = false := (fun o => blk_frz (j := 5) (((belO w4 o).block _ (lt_of_block hx)).trans hx)); have x6 : ∀ o : Obj, (w4.alloc o).cell? ⟨w3.heap.size, 6, none⟩ = some (.string ⟨#[]⟩) := (fun o => cellO (belO w4 o) (blk_cell hx rfl)); have f6 : ∀ o : Obj, (w4.alloc o).frozen? ⟨w3.heap.size, 6, none⟩ = false := (fun o => blk_frz (j := 6) (((belO w4 o).block _ (lt_of_block hx)).trans hx)); have x7 : ∀ o : Obj, (w4.alloc o).cell? ⟨w3.heap.size, 7, none⟩ = some (.int .i64 0) := (fun o => cellO (belO w4 o) (blk_cell hx rfl)); have f7 : ∀ o : Obj, (w4.alloc o).frozen? ⟨w3.heap.size, 7, none⟩ = false := (fun o => blk_frz (j := 7) (((belO w4 o).block _ (lt_of_block hx)).trans hx)); have x8 : ∀ o : Obj, (w4.alloc o).cell? ⟨w3.heap.size, 8, none⟩ = some (.slice none 0 0) := (fun o => cellO (belO w4 o) (blk_cell hx rfl)); have f8 : ∀ o : Obj, (w4.alloc o).frozen? ⟨w3.heap.size, 8, none⟩ = false := (fun o => blk_frz (j := 8) (((belO w4 o).block _ (lt_of_block hx)).trans hx)); have x9 : ∀ o : Obj, (w4.alloc o).cell? ⟨w3.heap.size, 9, none⟩ = some (.int .i64 0) := (fun o => cellO (belO w4 o) (blk_cell hx rfl)); have f9 : ∀ o : Obj, (w4.alloc o).frozen? ⟨w3.heap.size, 9, none⟩ = false := (fun o => blk_frz (j := 9) (((belO w4 o).block _ (lt_of_block hx)).trans hx)); have x10 : ∀ o : Obj, (w4.alloc o).cell? ⟨w3.heap.size, 10, none⟩ = some (.slice none 0 0) := (fun o => cellO (belO w4 o) (blk_cell hx rfl)); have f10 : ∀ o : Obj, (w4.alloc o).frozen? ⟨w3.heap.size, 10, none⟩ = false := (fun o => blk_frz (j := 10) (((belO w4 o).block _ (lt_of_block hx)).trans hx)); have x11 : ∀ o : Obj, (w4.alloc o).cell? ⟨w3.heap.size, 11, none⟩ = some (.slice none 0 0) := (fun o => cellO (belO w4 o) (blk_cell hx rfl)); have f11 : ∀ o : Obj, (w4.alloc o).frozen? ⟨w3.heap.size, 11, none⟩ = false := (fun o => blk_frz (j := 11) (((belO w4 o).block _ (lt_of_block hx)).trans hx))))))
  all_goals clear a0 a1 a2 a3 a4 a5 a6 a7 a8 a9 a10 a11 c0 c1 c2 c3 c4 c5 c6 c7 c8 c9 c10 c11 d0 d1 d2 d3 d4 d5 d6 d7 d8 d9 d10 d11 e0 e1 e2 e3 e4 e5 e6 e7 e8 e9 e10 e11
  all_goals (first
    | (obtain ⟨W, hW⟩ : ∃ W, (w4.alloc (.cells #[.int .u8 2, .string ⟨#[65, 110, 110]⟩, .string ⟨#[66, 111, 98]⟩, .string ⟨#[85, 83, 68]⟩, .int .u8 1, .string ⟨#[49]⟩, .string ⟨#[]⟩, .int .i64 0, .slice none 0 0, .int .i64 0, .slice none 0 0, .slice none 0 0, .int .u8 1, .string ⟨#[]⟩, .string ⟨#[]⟩, .string ⟨#[]⟩, .int .u8 0, .string ⟨#[]⟩, .string ⟨#[]⟩, .int .i64 0, .slice none 0 0, .int .i64 0, .slice none 0 0, .slice none 0 0] 32)).alloc (.cells #[.int .u8 3, .string ⟨#[]⟩, .string ⟨#[]⟩, .string ⟨#[]⟩, .int .u8 0, .string ⟨#[]⟩, .string ⟨#[]⟩, .int .i64 0, .slice none 0 0, .int .i64 0, .slice none 0 0, .slice (some ⟨w4.heap.size, 0, none⟩) 2 2] 32) = W := ⟨_, rfl⟩
       have hS : W.heap[w4.heap.size]? = some (.cells #[.int .u8 2, .string ⟨#[65, 110, 110]⟩, .string ⟨#[66, 111, 98]⟩, .string ⟨#[85, 83, 68]⟩, .int .u8 1, .string ⟨#[49]⟩, .string ⟨#[]⟩, .int .i64 0, .slice none 0 0, .int .i64 0, .slice none 0 0, .slice none 0 0, .int .u8 1, .string ⟨#[]⟩, .string ⟨#[]⟩, .string ⟨#[]⟩, .int .u8 0, .string ⟨#[]⟩, .string ⟨#[]⟩, .int .i64 0, .slice none 0 0, .int .i64 0, .slice none 0 0, .slice none 0 0] 32 (0, 0)) := by rw [← hW]; exact ((belO _ _).block _ (by simp)).trans (heap_alloc_new _ _)
       have hB : W.heap[w4.heap.size + 1]? = some (.cells #[.int .u8 3, .string ⟨#[]⟩, .string ⟨#[]⟩, .string ⟨#[]⟩, .int .u8 0, .string ⟨#[]⟩, .string ⟨#[]⟩, .int .i64 0, .slice none 0 0, .int .i64 0, .slice none 0 0, .slice (some ⟨w4.heap.size, 0, none⟩) 2 2] 32 (0, 0)) := by rw [← hW]; have := heap_alloc_new (w4.alloc (.cells #[.int .u8 2, .string ⟨#[65, 110, 110]⟩, .string ⟨#[66, 111, 98]⟩, .string ⟨#[85, 83, 68]⟩, .int .u8 1, .string ⟨#[49]⟩, .string ⟨#[]⟩, .int .i64 0, .slice none 0 0, .int .i64 0, .slice none 0 0, .slice none 0 0, .int .u8 1, .string ⟨#[]⟩, .string ⟨#[]⟩, .string ⟨#[]⟩, .int .u8 0, .string ⟨#[]⟩, .string ⟨#[]⟩, .int .i64 0, .slice none 0 0, .int .i64 0, .slice none 0 0, .slice none 0 0] 32)) (.cells #[.int .u8 3, .string ⟨#[]⟩, .string ⟨#[]⟩, .string ⟨#[]⟩, .int .u8 0, .string ⟨#[]⟩, .string ⟨#[]⟩, .int .i64 0, .slice none 0 0, .int .i64 0, .slice none 0 0, .slice (some ⟨w4.heap.size, 0, none⟩) 2 2] 32); simpa using this
       have BW3 : Below w3.heap.size w3 W := by rw [← hW]; exact btO (btO BW (belO _ _)) (belO _ _)
       rw [hW]
       clear hW
       obtain ⟨b, hb⟩ : ∃ b, w4.heap.size + 1 = b := ⟨_, rfl⟩
       rw [hb] at hB ⊢
       clear hb
       obtain ⟨bs, hbs⟩ : ∃ b, w4.heap.size = b := ⟨_, rfl⟩
       rw [hbs] at hB hS ⊢
       clear hbs hb4 BW)
    | (obtain ⟨W, hW⟩ : ∃ W, (w4.alloc (.cells #[.int .u8 3, .string ⟨#[]⟩, .string ⟨#[]⟩, .string ⟨#[]⟩, .int .u8 0, .string ⟨#[]⟩, .string ⟨#[]⟩, .int .i64 0, .slice none 0 0, .int .i64 0, .slice none 0 0, .slice (some ⟨w4.heap.size + 1, 0, none⟩) 2 2] 32)).alloc (.cells #[.int .u8 2, .string ⟨#[65, 110, 110]⟩, .string ⟨#[66, 111, 98]⟩, .string ⟨#[85, 83, 68]⟩, .int .u8 1, .string ⟨#[49]⟩, .string ⟨#[]⟩, .int .i64 0, .slice none 0 0, .int .i64 0, .slice none 0 0, .slice none 0 0, .int .u8 1, .string ⟨#[]⟩, .string ⟨#[]⟩, .string ⟨#[]⟩, .int .u8 0, .string ⟨#[]⟩, .string ⟨#[]⟩, .int .i64 0, .slice none 0 0, .int .i64 0, .slice none 0 0, .slice none 0 0] 32) = W := ⟨_, rfl⟩
       have hB : W.heap[w4.heap.size]? = some (.cells #[.int .u8 3, .string ⟨#[]⟩, .string ⟨#[]⟩, .string ⟨#[]⟩, .int .u8 0, .string ⟨#[]⟩, .string ⟨#[]⟩, .int .i64 0, .slice none 0 0, .int .i64 0, .slice none 0 0, .slice (some ⟨w4.heap.size + 1, 0, none⟩) 2 2] 32 (0, 0)) := by rw [← hW]; exact ((belO _ _).block _ (by simp)).trans (heap_alloc_new _ _)
       have hS : W.heap[w4.heap.size + 1]? = some (.cells #[.int .u8 2, .string ⟨#[65, 110, 110]⟩, .string ⟨#[66, 111, 98]⟩, .string ⟨#[85, 83, 68]⟩, .int .u8 1, .string ⟨#[49]⟩, .string ⟨#[]⟩, .int .i64 0, .slice none 0 0, .int .i64 0, .slice none 0 0, .slice none 0 0, .int .u8 1, .string ⟨#[]⟩, .string ⟨#[]⟩, .string ⟨#[]⟩, .int .u8 0, .string ⟨#[]⟩, .string ⟨#[]⟩, .int .i64 0, .slice none 0 0, .int .i64 0, .slice none 0 0, .slice none 0 0] 32 (0, 0)) := by rw [← hW]; have := heap_alloc_new (w4.alloc (.cells #[.int .u8 3, .string ⟨#[]⟩, .string ⟨#[]⟩, .string ⟨#[]⟩, .int .u8 0, .string ⟨#[]⟩, .string ⟨#[]⟩, .int .i64 0, .slice none 0 0, .int .i64 0, .slice none 0 0, .slice (some ⟨w4.heap.size + 1, 0, none⟩) 2 2] 32)) (.cells #[.int .u8 2, .string ⟨#[65, 110, 110]⟩, .string ⟨#[66, 111, 98]⟩, .string ⟨#[85, 83, 68]⟩, .int .u8 1, .string ⟨#[49]⟩, .string ⟨#[]⟩, .int .i64 0, .slice none 0 0, .int .i64 0, .slice none 0 0, .slice none 0 0, .int .u8 1, .string ⟨#[]⟩, .string ⟨#[]⟩, .string ⟨#[]⟩, .int .u8 0, .string ⟨#[]⟩, .string ⟨#[]⟩, .int .i64 0, .slice none 0 0, .int .i64 0, .slice none 0 0, .slice none 0 0] 32); simpa using this
       have BW3 : Below w3.heap.size w3 W := by rw [← hW]; exact btO (btO BW (belO _ _)) (belO _ _)
       rw [hW]
       clear hW
       obtain ⟨bs, hbs⟩ : ∃ b, w4.heap.size + 1 = b := ⟨_, rfl⟩
       rw [hbs] at hB hS ⊢
       clear hbs
       obtain ⟨b, hb⟩ : ∃ b, w4.heap.size = b := ⟨_, rfl⟩
       rw [hb] at hB ⊢
       clear hb hb4 BW)
    | (clear x0 x1 x2 x3 x4 x5 x6 x7 x8 x9 x10 x11 f0 f1 f2 f3 f4 f5 f6 f7 f8 f9 f10 f11
       obtain ⟨W, hW⟩ : ∃ W, (((((((((((((w4.alloc (.cells #[.int .u8 2, .string ⟨#[65, 110, 110]⟩, .string ⟨#[66, 111, 98]⟩, .string ⟨#[85, 83, 68]⟩, .int .u8 1, .string ⟨#[49]⟩, .string ⟨#[]⟩, .int .i64 0, .slice none 0 0, .int .i64 0, .slice none 0 0, .slice none 0 0, .int .u8 1, .string ⟨#[]⟩, .string ⟨#[]⟩, .string ⟨#[]⟩, .int .u8 0, .string ⟨#[]⟩, .string ⟨#[]⟩, .int .i64 0, .slice none 0 0, .int .i64 0, .slice none 0 0, .slice none 0 0] 32)).setCell ⟨w3.heap.size, 0, none⟩ (.int .u8 3)).setCell ⟨w3.heap.size, 1, none⟩ (.string ⟨#[]⟩)).setCell ⟨w3.heap.size, 2, none⟩ (.string ⟨#[]⟩)).setCell ⟨w3.heap.size, 3, none⟩ (.string ⟨#[]⟩)).setCell ⟨w3.heap.size, 4, none⟩ (.int .u8 0)).setCell ⟨w3.heap.size, 5, none⟩ (.string ⟨#[]⟩)).setCell ⟨w3.heap.size, 6, none⟩ (.string ⟨#[]⟩)).setCell ⟨w3.heap.size, 7, none⟩ (.int .i64 0)).setCell ⟨w3.heap.size, 8, none⟩ (.slice none 0 0)).setCell ⟨w3.heap.size, 9, none⟩ (.int .i64 0)).setCell ⟨w3.heap.size, 10, none⟩ (.slice none 0 0)).setCell ⟨w3.heap.size, 11, none⟩ (.slice (some ⟨w4.heap.size, 0, none⟩) 2 2)) = W := ⟨_, rfl⟩
       have hq : w3.heap.size < w4.heap.size := lt_of_block hx
       have hB : W.heap[w3.heap.size]? = some (.cells #[.int .u8 3, .string ⟨#[]⟩, .string ⟨#[]⟩, .string ⟨#[]⟩, .int .u8 0, .string ⟨#[]⟩, .string ⟨#[]⟩, .int .i64 0, .slice none 0 0, .int .i64 0, .slice none 0 0, .slice (some ⟨w4.heap.size, 0, none⟩) 2 2] 32 (0, 0)) := by rw [← hW]; exact sc12_row (((belO w4 _).block _ hq).trans hx)
       have hS : W.heap[w4.heap.size]? = some (.cells #[.int .u8 2, .string ⟨#[65, 110, 110]⟩, .string ⟨#[66, 111, 98]⟩, .string ⟨#[85, 83, 68]⟩, .int .u8 1, .string ⟨#[49]⟩, .string ⟨#[]⟩, .int .i64 0, .slice none 0 0, .int .i64 0, .slice none 0 0, .slice none 0 0, .int .u8 1, .string ⟨#[]⟩, .string ⟨#[]⟩, .string ⟨#[]⟩, .int .u8 0, .string ⟨#[]⟩, .string ⟨#[]⟩, .int .i64 0, .slice none 0 0, .int .i64 0, .slice none 0 0, .slice none 0 0] 32 (0, 0)) := by rw [← hW]; exact (sc12_oth (by omega)).trans (heap_alloc_new _ _)
       have BW3 : Below w3.heap.size w3 W := by rw [← hW]; exact sc12_bel (btO BW (belO _ _))
       rw [hW]
       clear hW
       obtain ⟨b, hb⟩ : ∃ b, w3.heap.size = b := ⟨_, rfl⟩
       rw [hb] at hB ⊢
       clear hb
       obtain ⟨bs, hbs⟩ : ∃ b, w4.heap.size = b := ⟨_, rfl⟩
       rw [hbs] at hB hS ⊢
       clear hbs hb4 BW hx hq))
  all_goals (
    have hp : W.heap[w2.heap.size]? = some (.cells #[.int .u8 2, .string ⟨#[65, 110, 110]⟩, .string ⟨#[66, 111, 98]⟩, .string ⟨#[85, 83, 68]⟩, .int .u8 1, .string ⟨#[49]⟩, .string ⟨#[]⟩, .int .i64 0, .slice none 0 0, .int .i64 0, .slice none 0 0, .slice none 0 0] 32 (0, 0)) := (BW3.block _ (lt_of_block hr3)).trans hr3
    have hT : (bothT (some ⟨bs, 0, none⟩) pA zeroT).In W := bothT_in (pA_in W) (zeroT_in W) hS
    have HVW := Lib.hid ((HV.out.below HB2.out).below (hb3.trans (BW3.mono hb3.size)))
    have HPA := Lib.hid (fun Z (h : Below W.heap.size W Z) => (show Calls Tryz.prog 26 #[.agg #[.int .u8 3, .string ⟨#[]⟩, .string ⟨#[]⟩, .string ⟨#[]⟩, .int .u8 0, .string ⟨#[]⟩, .string ⟨#[]⟩, .int .i64 0, .slice none 0 0, .int .i64 0, .slice none 0 0, .slice (some ⟨bs, 0, none⟩) 2 2]] Z (PartiesR (bothT (some ⟨bs, 0, none⟩) pA zeroT) Z) from parties_any (bothT (some ⟨bs, 0, none⟩) pA zeroT) Z (hT.below h) (by rw [(b_chk _).1]; decide) (b_byt _) (HVW.out.below h)))
    have HSA := Lib.hid (fun Z (h : Below W.heap.size W Z) => (show Calls Tryz.prog 20 #[.agg #[.int .u8 3, .string ⟨#[]⟩, .string ⟨#[]⟩, .string ⟨#[]⟩, .int .u8 0, .string ⟨#[]⟩, .string ⟨#[]⟩, .int .i64 0, .slice none 0 0, .int .i64 0, .slice none 0 0, .slice (some ⟨bs, 0, none⟩) 2 2]] Z (IntRO 4 Z) from by have := csize_any (bothT (some ⟨bs, 0, none⟩) pA zeroT) Z (hT.below h) (by rw [(b_chk _).1]; decide) (zeroOk_any _); rw [(b_chk _).1] at this; exact this))
    have HDA := Lib.hid (fun Z (h : Below W.heap.size W Z) => (show Calls Tryz.prog 22 #[.agg #[.int .u8 3, .string ⟨#[]⟩, .string ⟨#[]⟩, .string ⟨#[]⟩, .int .u8 0, .string ⟨#[]⟩, .string ⟨#[]⟩, .int .i64 0, .slice none 0 0, .int .i64 0, .slice none 0 0, .slice (some ⟨bs, 0, none⟩) 2 2]] Z (IntRO 3 Z) from by have := cdepth_any (bothT (some ⟨bs, 0, none⟩) pA zeroT) Z (hT.below h) (by rw [(b_chk _).1]; decide) (zeroOk_any _); rw [(b_chk _).2.1] at this; exact this))
    have HCA := Lib.hid (fun Z (h : Below W.heap.size W Z) => (show Calls Tryz.prog 11 #[.agg #[.int .u8 3, .string ⟨#[]⟩, .string ⟨#[]⟩, .string ⟨#[]⟩, .int .u8 0, .string ⟨#[]⟩, .string ⟨#[]⟩, .int .i64 0, .slice none 0 0, .int .i64 0, .slice none 0 0, .slice (some ⟨bs, 0, none⟩) 2 2]] Z (IntRO 0 Z) from by have := ccheck_any (bothT (some ⟨bs, 0, none⟩) pA zeroT) Z (hT.below h) (by rw [(b_chk _).1]; decide) (b_byt _) (HVW.out.below h); rw [(b_chk _).2.2] at this; exact this))
    have HSP := Lib.hid (fun Z => (show Calls Tryz.prog 20 #[.agg #[.int .u8 2, .string ⟨#[65, 110, 110]⟩, .string ⟨#[66, 111, 98]⟩, .string ⟨#[85, 83, 68]⟩, .int .u8 1, .string ⟨#[49]⟩, .string ⟨#[]⟩, .int .i64 0, .slice none 0 0, .int .i64 0, .slice none 0 0, .slice none 0 0]] Z (IntRO 2 Z) from by have := csize_any pA Z (pA_in Z) (by rw [p_chk.1]; decide) (zeroOk_any _); rw [p_chk.1] at this; exact this))
    have HDP := Lib.hid (fun Z => (show Calls Tryz.prog 22 #[.agg #[.int .u8 2, .string ⟨#[65, 110, 110]⟩, .string ⟨#[66, 111, 98]⟩, .string ⟨#[85, 83, 68]⟩, .int .u8 1, .string ⟨#[49]⟩, .string ⟨#[]⟩, .int .i64 0, .slice none 0 0, .int .i64 0, .slice none 0 0, .slice none 0 0]] Z (IntRO 2 Z) from by have := cdepth_any pA Z (pA_in Z) (by rw [p_chk.1]; decide) (zeroOk_any _); rw [p_chk.2] at this; exact this))
    have HBX := Lib.hid (btO HB2.out (btO hb3 BW3))
    clear HP HZ HV HB2 hr3 hb3 BW3 hT HVW hS
    have c0 : W.cell? ⟨w2.heap.size, 0, none⟩ = some (.int .u8 2) := blk_cell (j := 0) hp rfl
    have c1 : W.cell? ⟨w2.heap.size, 1, none⟩ = some (.string ⟨#[65, 110, 110]⟩) := blk_cell (j := 1) hp rfl
    have c2 : W.cell? ⟨w2.heap.size, 2, none⟩ = some (.string ⟨#[66, 111, 98]⟩) := blk_cell (j := 2) hp rfl
    have c3 : W.cell? ⟨w2.heap.size, 3, none⟩ = some (.string ⟨#[85, 83, 68]⟩) := blk_cell (j := 3) hp rfl
    have c4 : W.cell? ⟨w2.heap.size, 4, none⟩ = some (.int .u8 1) := blk_cell (j := 4) hp rfl
    have c5 : W.cell? ⟨w2.heap.size, 5, none⟩ = some (.string ⟨#[49]⟩) := blk_cell (j := 5) hp rfl
    have c6 : W.cell? ⟨w2.heap.size, 6, none⟩ = some (.string ⟨#[]⟩) := blk_cell (j := 6) hp rfl
    have c7 : W.cell? ⟨w2.heap.size, 7, none⟩ = some (.int .i64 0) := blk_cell (j := 7) hp rfl
    have c8 : W.cell? ⟨w2.heap.size, 8, none⟩ = some (.slice none 0 0) := blk_cell (j := 8) hp rfl
    have c9 : W.cell? ⟨w2.heap.size, 9, none⟩ = some (.int .i64 0) := blk_cell (j := 9) hp rfl
    have c10 : W.cell? ⟨w2.heap.size, 10, none⟩ = some (.slice none 0 0) := blk_cell (j := 10) hp rfl
    have c11 : W.cell? ⟨w2.heap.size, 11, none⟩ = some (.slice none 0 0) := blk_cell (j := 11) hp rfl
    have b0 : W.cell? ⟨b, 0, none⟩ = some (.int .u8 3) := blk_cell (j := 0) hB rfl
    have b1 : W.cell? ⟨b, 1, none⟩ = some (.string ⟨#[]⟩) := blk_cell (j := 1) hB rfl
    have b2 : W.cell? ⟨b, 2, none⟩ = some (.string ⟨#[]⟩) := blk_cell (j := 2) hB rfl
    have b3 : W.cell? ⟨b, 3, none⟩ = some (.string ⟨#[]⟩) := blk_cell (j := 3) hB rfl
    have b4 : W.cell? ⟨b, 4, none⟩ = some (.int .u8 0) := blk_cell (j := 4) hB rfl
    have b5 : W.cell? ⟨b, 5, none⟩ = some (.string ⟨#[]⟩) := blk_cell (j := 5) hB rfl
    have b6 : W.cell? ⟨b, 6, none⟩ = some (.string ⟨#[]⟩) := blk_cell (j := 6) hB rfl
    have b7 : W.cell? ⟨b, 7, none⟩ = some (.int .i64 0) := blk_cell (j := 7) hB rfl
    have b8 : W.cell? ⟨b, 8, none⟩ = some (.slice none 0 0) := blk_cell (j := 8) hB rfl
    have b9 : W.cell? ⟨b, 9, none⟩ = some (.int .i64 0) := blk_cell (j := 9) hB rfl
    have b10 : W.cell? ⟨b, 10, none⟩ = some (.slice none 0 0) := blk_cell (j := 10) hB rfl
    have b11 : W.cell? ⟨b, 11, none⟩ = some (.slice (some ⟨bs, 0, none⟩) 2 2) := blk_cell (j := 11) hB rfl
    have BC := Below.refl W.heap.size W
    clear hp hB
    go_wp2_with (fail)
    go_at_call 26
    with_reducible refine (HPA.out _ BC).mono ?_
    rintro u w5 ⟨h1, hb⟩
    obtain ⟨-, A, c, rfl, hw⟩ := h1.resolve_left (fun h => h.1 (b_chk _).2.2)
    rw [b_nms] at hw ⊢
    have HW := Lib.hid (own_strR hw)
    clear hw h1
    have BC := btO BC hb
    have HR := Lib.hid (Below.refl w5.heap.size w5)
    replace c0 := cellO hb c0
    replace b0 := cellO hb b0
    replace c1 := cellO hb c1
    replace b1 := cellO hb b1
    replace c2 := cellO hb c2
    replace b2 := cellO hb b2
    replace c3 := cellO hb c3
    replace b3 := cellO hb b3
    replace c4 := cellO hb c4
    replace b4 := cellO hb b4
    replace c5 := cellO hb c5
    replace b5 := cellO hb b5
    replace c6 := cellO hb c6
    replace b6 := cellO hb b6
    replace c7 := cellO hb c7
    replace b7 := cellO hb b7
    replace c8 := cellO hb c8
    replace b8 := cellO hb b8
    replace c9 := cellO hb c9
    replace b9 := cellO hb b9
    replace c10 := cellO hb c10
    replace b10 := cellO hb b10
    replace c11 := cellO hb c11
    replace b11 := cellO hb b11
    clear hb
    go_wp2_with (fail)
    go_at_call 20
    with_reducible refine (HSP.out _).mono ?_
    rintro u w6 ⟨rfl, hb⟩
    have BC := btO BC hb
    have HR := Lib.hid (btO HR.out hb)
    replace c0 := cellO hb c0
    replace b0 := cellO hb b0
    replace c1 := cellO hb c1
    replace b1 := cellO hb b1
    replace c2 := cellO hb c2
    replace b2 := cellO hb b2
    replace c3 := cellO hb c3
    replace b3 := cellO hb b3
    replace c4 := cellO hb c4
    replace b4 := cellO hb b4
    replace c5 := cellO hb c5
    replace b5 := cellO hb b5
    replace c6 := cellO hb c6
    replace b6 := cellO hb b6
    replace c7 := cellO hb c7
    replace b7 := cellO hb b7
    replace c8 := cellO hb c8
    replace b8 := cellO hb b8
    replace c9 := cellO hb c9
    replace b9 := cellO hb b9
    replace c10 := cellO hb c10
    replace b10 := cellO hb b10
    replace c11 := cellO hb c11
    replace b11 := cellO hb b11
    clear hb
    go_wp2_with (fail)
    go_at_call 22
    with_reducible refine (HDP.out _).mono ?_
    rintro u w7 ⟨rfl, hb⟩
    have BC := btO BC hb
    have HR := Lib.hid (btO HR.out hb)
    replace c0 := cellO hb c0
    replace b0 := cellO hb b0
    replace c1 := cellO hb c1
    replace b1 := cellO hb b1
    replace c2 := cellO hb c2
    replace b2 := cellO hb b2
    replace c3 := cellO hb c3
    replace b3 := cellO hb b3
    replace c4 := cellO hb c4
    replace b4 := cellO hb b4
    replace c5 := cellO hb c5
    replace b5 := cellO hb b5
    replace c6 := cellO hb c6
    replace b6 := cellO hb b6
    replace c7 := cellO hb c7
    replace b7 := cellO hb b7
    replace c8 := cellO hb c8
    replace b8 := cellO hb b8
    replace c9 := cellO hb c9
    replace b9 := cellO hb b9
    replace c10 := cellO hb c10
    replace b10 := cellO hb b10
    replace c11 := cellO hb c11
    replace b11 := cellO hb b11
    clear hb
    go_wp2_with (fail)
    go_at_call 20
    with_reducible refine (HSA.out _ BC).mono ?_
    rintro u w8 ⟨rfl, hb⟩
    have BC := btO BC hb
    have HR := Lib.hid (btO HR.out hb)
    replace c0 := cellO hb c0
    replace b0 := cellO hb b0
    replace c1 := cellO hb c1
    replace b1 := cellO hb b1
    replace c2 := cellO hb c2
    replace b2 := cellO hb b2
    replace c3 := cellO hb c3
    replace b3 := cellO hb b3
    replace c4 := cellO hb c4
    replace b4 := cellO hb b4
    replace c5 := cellO hb c5
    replace b5 := cellO hb b5
    replace c6 := cellO hb c6
    replace b6 := cellO hb b6
    replace c7 := cellO hb c7
    replace b7 := cellO hb b7
    replace c8 := cellO hb c8
    replace b8 := cellO hb b8
    replace c9 := cellO hb c9
    replace b9 := cellO hb b9
    replace c10 := cellO hb c10
    replace b10 := cellO hb b10
    replace c11 := cellO hb c11
    replace b11 := cellO hb b11
    clear hb
    go_wp2_with (fail)
    go_at_call 22
    with_reducible refine (HDA.out _ BC).mono ?_
    rintro u w9 ⟨rfl, hb⟩
    have BC := btO BC hb
    have HR := Lib.hid (btO HR.out hb)
    replace c0 := cellO hb c0
    replace b0 := cellO hb b0
    replace c1 := cellO hb c1
    replace b1 := cellO hb b1
    replace c2 := cellO hb c2
    replace b2 := cellO hb b2
    replace c3 := cellO hb c3
    replace b3 := cellO hb b3
    replace c4 := cellO hb c4
    replace b4 := cellO hb b4
    replace c5 := cellO hb c5
    replace b5 := cellO hb b5
    replace c6 := cellO hb c6
    replace b6 := cellO hb b6
    replace c7 := cellO hb c7
    replace b7 := cellO hb b7
    replace c8 := cellO hb c8
    replace b8 := cellO hb b8
    replace c9 := cellO hb c9
    replace b9 := cellO hb b9
    replace c10 := cellO hb c10
    replace b10 := cellO hb b10
    replace c11 := cellO hb c11
    replace b11 := cellO hb b11
    clear hb
    go_wp2_with (fail)
    go_at_call 11
    with_reducible refine (HCA.out _ BC).mono ?_
    rintro u w10 ⟨rfl, hb⟩
    have BC := btO BC hb
    have HR := Lib.hid (btO HR.out hb)
    replace c0 := cellO hb c0
    replace b0 := cellO hb b0
    replace c1 := cellO hb c1
    replace b1 := cellO hb b1
    replace c2 := cellO hb c2
    replace b2 := cellO hb b2
    replace c3 := cellO hb c3
    replace b3 := cellO hb b3
    replace c4 := cellO hb c4
    replace b4 := cellO hb b4
    replace c5 := cellO hb c5
    replace b5 := cellO hb b5
    replace c6 := cellO hb c6
    replace b6 := cellO hb b6
    replace c7 := cellO hb c7
    replace b7 := cellO hb b7
    replace c8 := cellO hb c8
    replace b8 := cellO hb b8
    replace c9 := cellO hb c9
    replace b9 := cellO hb b9
    replace c10 := cellO hb c10
    replace b10 := cellO hb b10
    replace c11 := cellO hb c11
    replace b11 := cellO hb b11
    clear hb
    go_wp2_with (fail)
    have hss : StrR9 (w10.alloc (.cells #[.string ⟨#[65, 110, 110]⟩, .string ⟨#[66, 111, 98]⟩] 9)) (some ⟨w10.heap.size, 0, none⟩) [⟨#[65, 110, 110]⟩, ⟨#[66, 111, 98]⟩] := by
      have hr := heap_alloc_new w10 (.cells #[.string ⟨#[65, 110, 110]⟩, .string ⟨#[66, 111, 98]⟩] 9)
      intro j hj
      have hj : j < 2 := hj
      rcases (show j = 0 ∨ j = 1 by omega) with rfl | rfl
      · exact ⟨_, 0, rfl, blk_cell hr rfl⟩
      · exact ⟨_, 0, rfl, blk_cell hr rfl⟩
    have hlw : StrR9 (w10.alloc (.cells #[.string ⟨#[65, 110, 110]⟩, .string ⟨#[66, 111, 98]⟩] 9)) A [⟨#[65, 110, 110]⟩, ⟨#[66, 111, 98]⟩] := (HW.out.below HR.out).below (belO w10 _)
    have hsm : Calls Tryz.prog 31 #[.slice A 2 c, .slice (some ⟨w10.heap.size, 0, none⟩) 2 2] (w10.alloc (.cells #[.string ⟨#[65, 110, 110]⟩, .string ⟨#[66, 111, 98]⟩] 9)) (BoolRO true _) := sameStr_any A (some ⟨w10.heap.size, 0, none⟩) c 2 [⟨#[65, 110, 110]⟩, ⟨#[66, 111, 98]⟩] [⟨#[65, 110, 110]⟩, ⟨#[66, 111, 98]⟩] true (by decide) (by decide) _ hlw hss
    go_at_call 31
    with_reducible refine hsm.mono ?_
    rintro u w11 ⟨rfl, hb⟩
    have hend : Below w.heap.size w w11 := btO HBX.out (btO (btO BC (belO w10 _)) hb)
    clear hss hlw hb hsm
    go_wp2_with (fail)
    go_ret
    exact ⟨rfl, hend⟩)
end Go.Proofs.YtalejbabhjlehaaGreatDoor
/- The walk of ContractParts. -/
namespace Go.Proofs.YtalejbabhjlehaaGreatDoor
open Go Go.RowKit Go.BigFrame
attribute [local go_sem] Oper.semAt_some
set_option maxRecDepth 100000 in
set_option maxHeartbeats 6400000 in
theorem parts9_law (T : Ct) (w : World) (hT : T.In w) (hv : VarR w) : Calls Tryz.prog 7 #[T.val] w (BoolRO true w) := by
  obtain ⟨kk, ff, tt, nn, X, dd, DA, dl, dc, A, c, s⟩ := T
  have mixed : Tryz.prog.follows Departure.mixedOrders = true := by kernel_rfl
  obtain ⟨w1, hw1⟩ : ∃ w1, w.alloc (.cells #[.int .u8 kk, .string ff, .string tt, .string nn, .int .u8 X.k, .string X.r, .string X.n, .int .i64 X.d, .slice X.A X.sub.length X.c, .int .i64 dd, .slice DA dl.length dc, .slice A s.length c] 32) = w1 := ⟨_, rfl⟩
  have HB1 := Lib.hid (show Below w.heap.size w w1 by rw [← hw1]; exact belO w _)
  have hr1 : w1.heap[w.heap.size]? = some (.cells #[.int .u8 kk, .string ff, .string tt, .string nn, .int .u8 X.k, .string X.r, .string X.n, .int .i64 X.d, .slice X.A X.sub.length X.c, .int .i64 dd, .slice DA dl.length dc, .slice A s.length c] 32 (0, 0)) := by rw [← hw1]; exact heap_alloc_new w _
  have c0 : w1.cell? ⟨w.heap.size, 0, none⟩ = some (.int .u8 kk) := blk_cell (j := 0) hr1 rfl
  have c1 : w1.cell? ⟨w.heap.size, 1, none⟩ = some (.string ff) := blk_cell (j := 1) hr1 rfl
  have c2 : w1.cell? ⟨w.heap.size, 2, none⟩ = some (.string tt) := blk_cell (j := 2) hr1 rfl
  have c3 : w1.cell? ⟨w.heap.size, 3, none⟩ = some (.string nn) := blk_cell (j := 3) hr1 rfl
  have c4 : w1.cell? ⟨w.heap.size, 4, none⟩ = some (.int .u8 X.k) := blk_cell (j := 4) hr1 rfl
  have c5 : w1.cell? ⟨w.heap.size, 5, none⟩ = some (.string X.r) := blk_cell (j := 5) hr1 rfl
  have c6 : w1.cell? ⟨w.heap.size, 6, none⟩ = some (.string X.n) := blk_cell (j := 6) hr1 rfl
  have c7 : w1.cell? ⟨w.heap.size, 7, none⟩ = some (.int .i64 X.d) := blk_cell (j := 7) hr1 rfl
  have c8 : w1.cell? ⟨w.heap.size, 8, none⟩ = some (.slice X.A X.sub.length X.c) := blk_cell (j := 8) hr1 rfl
  have c9 : w1.cell? ⟨w.heap.size, 9, none⟩ = some (.int .i64 dd) := blk_cell (j := 9) hr1 rfl
  have c10 : w1.cell? ⟨w.heap.size, 10, none⟩ = some (.slice DA dl.length dc) := blk_cell (j := 10) hr1 rfl
  have c11 : w1.cell? ⟨w.heap.size, 11, none⟩ = some (.slice A s.length c) := blk_cell (j := 11) hr1 rfl
  have hT1 := hT.below HB1.out
  have hv1 := hv.below HB1.out
  have hX1 : X.In w1 := by rw [Ct.in_mk] at hT1; exact hT1.2.1
  have HA := Lib.hid (fun W (h : Below w1.heap.size w1 W) => alive9_any W (hv1.below h))
  have HG := Lib.hid (fun W (h : Below w1.heap.size w1 W) => (show Calls Tryz.prog 17 #[.agg #[.int .u8 kk, .string ff, .string tt, .string nn, .int .u8 X.k, .string X.r, .string X.n, .int .i64 X.d, .slice X.A X.sub.length X.c, .int .i64 dd, .slice DA dl.length dc, .slice A s.length c]] W (BoolRO (Ct.grt (.mk kk ff tt nn X dd DA dl dc A c s)) W) from great9_any (.mk kk ff tt nn X dd DA dl dc A c s) W (hT1.below h)))
  clear hr1 hT hv
  show Calls Tryz.prog 7 #[.agg #[.int .u8 kk, .string ff, .string tt, .string nn, .int .u8 X.k, .string X.r, .string X.n, .int .i64 X.d, .slice X.A X.sub.length X.c, .int .i64 dd, .slice DA dl.length dc, .slice A s.length c]] w _
  have BC := Below.refl w1.heap.size w1
  go_enter Tryz.func7, Tryz.ntmps7
  go_wp2_with (fail)
  clear hw1
  go_at_call 16
  with_reducible refine (HA.out _ BC).mono ?_
  rintro u w2 ⟨rfl, hb⟩
  replace BC := btO BC hb
  replace c0 := cellO hb c0
  replace c1 := cellO hb c1
  replace c2 := cellO hb c2
  replace c3 := cellO hb c3
  replace c4 := cellO hb c4
  replace c5 := cellO hb c5
  replace c6 := cellO hb c6
  replace c7 := cellO hb c7
  replace c8 := cellO hb c8
  replace c9 := cellO hb c9
  replace c10 := cellO hb c10
  replace c11 := cellO hb c11
  clear hb
  go_wp2_with (fail)
  go_at_call 17
  with_reducible refine (HG.out _ BC).mono ?_
  rintro u w3 ⟨rfl, hb⟩
  replace BC := btO BC hb
  replace c0 := cellO hb c0
  replace c1 := cellO hb c1
  replace c2 := cellO hb c2
  replace c3 := cellO hb c3
  replace c4 := cellO hb c4
  replace c5 := cellO hb c5
  replace c6 := cellO hb c6
  replace c7 := cellO hb c7
  replace c8 := cellO hb c8
  replace c9 := cellO hb c9
  replace c10 := cellO hb c10
  replace c11 := cellO hb c11
  clear hb
  clear HA HG
  cases hg : Ct.grt (.mk kk ff tt nn X dd DA dl dc A c s) with
  | true =>
    clear hT1 hv1 hX1
    go_wp2_with (fail)
    go_ret
    exact ⟨rfl, btO HB1.out BC⟩
  | false =>
    have hz := (Ct.grt_not hg).2.2.2.2
    have hby := Ct.grt_byt hg
    have HK := Lib.hid (fun W (h : Below w1.heap.size w1 W) => (show Calls Tryz.prog 11 #[.agg #[.int .u8 kk, .string ff, .string tt, .string nn, .int .u8 X.k, .string X.r, .string X.n, .int .i64 X.d, .slice X.A X.sub.length X.c, .int .i64 dd, .slice DA dl.length dc, .slice A s.length c]] W (IntRO (Ct.chk (.mk kk ff tt nn X dd DA dl dc A c s)) W) from ccheck_any (.mk kk ff tt nn X dd DA dl dc A c s) W (hT1.below h) (by omega) hby (hv1.below h)))
    have HBY := Lib.hid hby
    have HT1 := Lib.hid hT1
    have HV1 := Lib.hid hv1
    have HX1 := Lib.hid hX1
    clear hby hT1 hv1 hX1 hz hg
    go_wp2_with (fail)
    go_at_call 11
    with_reducible refine (HK.out _ BC).mono ?_
    rintro u w4 ⟨rfl, hb⟩
    replace BC := btO BC hb
    replace c0 := cellO hb c0
    replace c1 := cellO hb c1
    replace c2 := cellO hb c2
    replace c3 := cellO hb c3
    replace c4 := cellO hb c4
    replace c5 := cellO hb c5
    replace c6 := cellO hb c6
    replace c7 := cellO hb c7
    replace c8 := cellO hb c8
    replace c9 := cellO hb c9
    replace c10 := cellO hb c10
    replace c11 := cellO hb c11
    clear hb
    clear HK
    by_cases hk : Ct.chk (.mk kk ff tt nn X dd DA dl dc A c s) = 0
    · have HS := Lib.hid (fun W (h : Below w1.heap.size w1 W) => (show Calls Tryz.prog 20 #[.agg #[.int .u8 kk, .string ff, .string tt, .string nn, .int .u8 X.k, .string X.r, .string X.n, .int .i64 X.d, .slice X.A X.sub.length X.c, .int .i64 dd, .slice DA dl.length dc, .slice A s.length c]] W (IntRO (Ct.siz (.mk kk ff tt nn X dd DA dl dc A c s)) W) from csize_any (.mk kk ff tt nn X dd DA dl dc A c s) W (HT1.out.below h) (by have := ((Ct.many_iff2 _).1 ((Ct.chk_iff _).1 hk).1).1; omega) (zeroOk_any _)))
      have HD := Lib.hid (fun W (h : Below w1.heap.size w1 W) => (show Calls Tryz.prog 22 #[.agg #[.int .u8 kk, .string ff, .string tt, .string nn, .int .u8 X.k, .string X.r, .string X.n, .int .i64 X.d, .slice X.A X.sub.length X.c, .int .i64 dd, .slice DA dl.length dc, .slice A s.length c]] W (IntRO (Ct.dep (.mk kk ff tt nn X dd DA dl dc A c s)) W) from cdepth_any (.mk kk ff tt nn X dd DA dl dc A c s) W (HT1.out.below h) (by have := ((Ct.many_iff2 _).1 ((Ct.chk_iff _).1 hk).1).1; omega) (zeroOk_any _)))
      obtain ⟨hz, hd⟩ := (Ct.many_iff2 _).1 ((Ct.chk_iff _).1 hk).1
      have HKX := Lib.hid (Ct.chk_x hk)
      have HKS := Lib.hid (Ct.chk_sub hk)
      rw [hk]
      clear hk
      rw [Ct.siz_mk] at hz HS
      rw [Ct.dep_mk] at hd HD
      have hlen : s.length ≤ 500 := by have := len_sum s; omega
      by_cases hX : X.k = 0
      · have hX2 : (X.k != 0) = false := by rw [hX]; rfl
        obtain ⟨hx1, hx2⟩ := HKX.out.2 hX
        clear HKX HX1
        go_wp2_with (fail)
        clear hX hX2
        go_loopw [4, 5, 6] (fun a d i wr => ∃ k S D : Nat, k ≤ s.length ∧ a = .int .i64 S ∧ d = .int .i64 D ∧ i = .int .i64 k ∧ Hid (S = 1 + X.xsz + ((s.take k).map Ct.siz).sum) ∧ Hid (D = ((s.take k).map Ct.dep).foldl max X.xdp) ∧ Hid (Below w4.heap.size w4 wr)) (fun _ _ i _ => s.length - (intOf i).toNat)
        case atStart => exact ⟨0, 1, 0, Nat.zero_le _, by first | rfl | go_num, by first | rfl | go_num, rfl, by show _ = _; rw [hx1]; simp, by show _ = _; rw [hx2]; rfl, Below.refl _ _⟩
        case round =>
          obtain ⟨k, S, D, hk, rfl, rfl, rfl, HSU, HDE, HW⟩ := hrel
          have hB := btO BC HW.out
          have d0 := cellO HW.out c0
          have d1 := cellO HW.out c1
          have d2 := cellO HW.out c2
          have d3 := cellO HW.out c3
          have d4 := cellO HW.out c4
          have d5 := cellO HW.out c5
          have d6 := cellO HW.out c6
          have d7 := cellO HW.out c7
          have d8 := cellO HW.out c8
          have d9 := cellO HW.out c9
          have d10 := cellO HW.out c10
          have d11 := cellO HW.out c11
          clear c0 c1 c2 c3 c4 c5 c6 c7 c8 c9 c10 c11
          have hS1 := HSU.out
          have hD1 := HDE.out
          by_cases hlt : k < s.length
          · obtain ⟨b, o, rfl, hbq, hpq, e0, e1, e2, e3, e4, e5, e6, e7, e8, e9, e10, e11⟩ := HT1.out.part hlt
            replace e0 := cellO hB e0
            replace e1 := cellO hB e1
            replace e2 := cellO hB e2
            replace e3 := cellO hB e3
            replace e4 := cellO hB e4
            replace e5 := cellO hB e5
            replace e6 := cellO hB e6
            replace e7 := cellO hB e7
            replace e8 := cellO hB e8
            replace e9 := cellO hB e9
            replace e10 := cellO hB e10
            replace e11 := cellO hB e11
            have hpi := hpq.below hB
            have hm : s[k] ∈ s := List.getElem_mem hlt
            have hkt := HKS.out _ hm
            have hyt := Ct.byt_sub HBY.out _ hm
            have HV2 := Lib.hid (HV1.out.below hB)
            have a1 := sum_take9 hlt Ct.siz
            have a2 := sum_take_le9 s (k + 1) Ct.siz
            have b1 := max_take9 hlt Ct.dep X.xdp
            have b2 := max_take_le9 s (k + 1) Ct.dep X.xdp
            generalize s[k] = t at *
            have hs9 : S + t.siz ≤ 500 := by omega
            have hd9 : max D t.dep ≤ 59 := by rw [hD1, ← b1]; omega
            have HSU2 : Hid (S + t.siz = 1 + X.xsz + ((s.take (k + 1)).map Ct.siz).sum) := by show _ = _; omega
            have HDE2 : Hid (max D t.dep = ((s.take (k + 1)).map Ct.dep).foldl max X.xdp) := by show _ = _; rw [b1, ← hD1]
            clear a1 a2 b1 b2 hS1 hD1 hm hpq hbq
            have HPK := Lib.hid (fun W (h : Below wr.heap.size wr W) => (show Calls Tryz.prog 11 #[.agg #[.int .u8 t.k, .string t.f, .string t.t, .string t.n, .int .u8 t.x.k, .string t.x.r, .string t.x.n, .int .i64 t.x.d, .slice t.x.A t.x.sub.length t.x.c, .int .i64 t.d, .slice t.DA t.dl.length t.dc, .slice t.A t.sub.length t.c]] W (IntRO 0 W) from by have := ccheck_any t W (hpi.below h) (by omega) hyt (HV2.out.below h); rw [hkt] at this; exact this))
            have HPS := Lib.hid (fun W (h : Below wr.heap.size wr W) => (show Calls Tryz.prog 20 #[.agg #[.int .u8 t.k, .string t.f, .string t.t, .string t.n, .int .u8 t.x.k, .string t.x.r, .string t.x.n, .int .i64 t.x.d, .slice t.x.A t.x.sub.length t.x.c, .int .i64 t.d, .slice t.DA t.dl.length t.dc, .slice t.A t.sub.length t.c]] W (IntRO t.siz W) from csize_any t W (hpi.below h) (by omega) (zeroOk_any _)))
            have HPD := Lib.hid (fun W (h : Below wr.heap.size wr W) => (show Calls Tryz.prog 22 #[.agg #[.int .u8 t.k, .string t.f, .string t.t, .string t.n, .int .u8 t.x.k, .string t.x.r, .string t.x.n, .int .i64 t.x.d, .slice t.x.A t.x.sub.length t.x.c, .int .i64 t.d, .slice t.DA t.dl.length t.dc, .slice t.A t.sub.length t.c]] W (IntRO t.dep W) from cdepth_any t W (hpi.below h) (by omega) (zeroOk_any _)))
            clear hpi hyt hkt HV2
            have hk0 : (0 : Int) ≤ (k : Int) := by omega
            have hk1 : (k : Int) < (s.length : Int) := by omega
            have BR := Below.refl wr.heap.size wr
            go_wp2_with (fail)
            go_at_call 11
            with_reducible refine (HPK.out _ BR).mono ?_
            rintro u wp ⟨rfl, hb⟩
            replace BR := btO BR hb
            replace d0 := cellO hb d0
            replace d1 := cellO hb d1
            replace d2 := cellO hb d2
            replace d3 := cellO hb d3
            replace d4 := cellO hb d4
            replace d5 := cellO hb d5
            replace d6 := cellO hb d6
            replace d7 := cellO hb d7
            replace d8 := cellO hb d8
            replace d9 := cellO hb d9
            replace d10 := cellO hb d10
            replace d11 := cellO hb d11
            replace e0 := cellO hb e0
            replace e1 := cellO hb e1
            replace e2 := cellO hb e2
            replace e3 := cellO hb e3
            replace e4 := cellO hb e4
            replace e5 := cellO hb e5
            replace e6 := cellO hb e6
            replace e7 := cellO hb e7
            replace e8 := cellO hb e8
            replace e9 := cellO hb e9
            replace e10 := cellO hb e10
            replace e11 := cellO hb e11
            clear hb
            go_wp2_with (fail)
            go_at_call 20
            with_reducible refine (HPS.out _ BR).mono ?_
            rintro u wq ⟨rfl, hb⟩
            replace BR := btO BR hb
            replace d0 := cellO hb d0
            replace d1 := cellO hb d1
            replace d2 := cellO hb d2
            replace d3 := cellO hb d3
            replace d4 := cellO hb d4
            replace d5 := cellO hb d5
            replace d6 := cellO hb d6
            replace d7 := cellO hb d7
            replace d8 := cellO hb d8
            replace d9 := cellO hb d9
            replace d10 := cellO hb d10
            replace d11 := cellO hb d11
            replace e0 := cellO hb e0
            replace e1 := cellO hb e1
            replace e2 := cellO hb e2
            replace e3 := cellO hb e3
            replace e4 := cellO hb e4
            replace e5 := cellO hb e5
            replace e6 := cellO hb e6
            replace e7 := cellO hb e7
            replace e8 := cellO hb e8
            replace e9 := cellO hb e9
            replace e10 := cellO hb e10
            replace e11 := cellO hb e11
            clear hb
            go_wp2_with (fail)
            go_at_call 22
            with_reducible refine (HPD.out _ BR).mono ?_
            rintro u ws ⟨rfl, hb⟩
            replace BR := btO BR hb
            replace d0 := cellO hb d0
            replace d1 := cellO hb d1
            replace d2 := cellO hb d2
            replace d3 := cellO hb d3
            replace d4 := cellO hb d4
            replace d5 := cellO hb d5
            replace d6 := cellO hb d6
            replace d7 := cellO hb d7
            replace d8 := cellO hb d8
            replace d9 := cellO hb d9
            replace d10 := cellO hb d10
            replace d11 := cellO hb d11
            replace e0 := cellO hb e0
            replace e1 := cellO hb e1
            replace e2 := cellO hb e2
            replace e3 := cellO hb e3
            replace e4 := cellO hb e4
            replace e5 := cellO hb e5
            replace e6 := cellO hb e6
            replace e7 := cellO hb e7
            replace e8 := cellO hb e8
            replace e9 := cellO hb e9
            replace e10 := cellO hb e10
            replace e11 := cellO hb e11
            clear hb
            clear HPK HPS HPD
            by_cases hmx : D < t.dep
            · have hq2 : max (D : Int) (t.dep : Int) = (t.dep : Int) := by omega
              have hq3 : max D t.dep = t.dep := by omega
              rw [hq3] at HDE2
              go_wp2_with (fail)
              go_roundw
              case rel => exact ⟨k + 1, S + t.siz, t.dep, by omega, by go_num, by go_num, by go_num, HSU2, HDE2, btO HW.out BR⟩
              case measure => simp [intOf]; omega
            · have hq2 : max (D : Int) (t.dep : Int) = (D : Int) := by omega
              have hq3 : max D t.dep = D := by omega
              rw [hq3] at HDE2
              go_wp2_with (fail)
              go_roundw
              case rel => exact ⟨k + 1, S + t.siz, D, by omega, by go_num, by go_num, by go_num, HSU2, HDE2, btO HW.out BR⟩
              case measure => simp [intOf]; omega
          · obtain rfl : k = s.length := by omega
            rw [List.take_length] at hS1 hD1
            rw [← hS1] at HS hz
            rw [← hD1] at HD hd
            have HD2 := Lib.hid (fun W (h : Below w1.heap.size w1 W) => (show Calls Tryz.prog 22 #[.agg #[.int .u8 kk, .string ff, .string tt, .string nn, .int .u8 X.k, .string X.r, .string X.n, .int .i64 X.d, .slice X.A X.sub.length X.c, .int .i64 dd, .slice DA dl.length dc, .slice A s.length c]] W (IntRO ((D : Int) + 1) W) from by have := HD.out W h; rw [show ((D + 1 : Nat) : Int) = (D : Int) + 1 by omega] at this; exact this))
            clear HD hS1 hD1 HSU HDE HT1 HBY HKS HV1 hx1 hx2
            have hD8 : (D : Int) ≤ 59 := by omega
            have BR := Below.refl wr.heap.size wr
            go_wp2_with (fail)
            go_at_call 20
            with_reducible refine (HS.out _ (btO hB BR)).mono ?_
            rintro u wp ⟨rfl, hb⟩
            replace BR := btO BR hb
            replace d0 := cellO hb d0
            replace d1 := cellO hb d1
            replace d2 := cellO hb d2
            replace d3 := cellO hb d3
            replace d4 := cellO hb d4
            replace d5 := cellO hb d5
            replace d6 := cellO hb d6
            replace d7 := cellO hb d7
            replace d8 := cellO hb d8
            replace d9 := cellO hb d9
            replace d10 := cellO hb d10
            replace d11 := cellO hb d11
            clear hb
            go_wp2_with (fail)
            go_at_call 22
            with_reducible refine (HD2.out _ (btO hB BR)).mono ?_
            rintro u wq ⟨rfl, hb⟩
            replace BR := btO BR hb
            replace d0 := cellO hb d0
            replace d1 := cellO hb d1
            replace d2 := cellO hb d2
            replace d3 := cellO hb d3
            replace d4 := cellO hb d4
            replace d5 := cellO hb d5
            replace d6 := cellO hb d6
            replace d7 := cellO hb d7
            replace d8 := cellO hb d8
            replace d9 := cellO hb d9
            replace d10 := cellO hb d10
            replace d11 := cellO hb d11
            clear hb
            go_wp2_with (fail)
            go_ret
            exact ⟨rfl, btO HB1.out (btO hB BR)⟩
      · have hX2 : (X.k != 0) = true := by rw [bne_iff_ne]; exact hX
        obtain ⟨hx0, hx1, hx2⟩ := HKX.out.1 hX
        clear HKX
        have hby : X.byt ≤ 12000 := HBY.out (.mk kk ff tt nn X dd DA dl dc A c s) (by rw [Ct.all_mk]; exact List.mem_cons_self ..)
        have hxz : X.siz ≤ 600 := by omega
        have HXK := Lib.hid (fun W (h : Below w1.heap.size w1 W) => (show Calls Tryz.prog 38 #[.agg #[.int .u8 X.k, .string X.r, .string X.n, .int .i64 X.d, .slice X.A X.sub.length X.c]] W (IntRO 0 W) from by have := pcheck_anyO X W (HX1.out.below h) hby (HV1.out.below h); rw [hx0] at this; exact this))
        have HXS := Lib.hid (fun W (h : Below w1.heap.size w1 W) => (show Calls Tryz.prog 39 #[.agg #[.int .u8 X.k, .string X.r, .string X.n, .int .i64 X.d, .slice X.A X.sub.length X.c]] W (IntRO X.siz W) from psize8_any X W (HX1.out.below h) hxz))
        have HXD := Lib.hid (fun W (h : Below w1.heap.size w1 W) => (show Calls Tryz.prog 40 #[.agg #[.int .u8 X.k, .string X.r, .string X.n, .int .i64 X.d, .slice X.A X.sub.length X.c]] W (IntRO X.dep W) from rdepth8_any X W (HX1.out.below h) hxz))
        clear HX1 hby hx0
        go_wp2_with (fail)
        go_at_call 38
        with_reducible refine (HXK.out _ BC).mono ?_
        rintro u w5 ⟨rfl, hb⟩
        replace BC := btO BC hb
        replace c0 := cellO hb c0
        replace c1 := cellO hb c1
        replace c2 := cellO hb c2
        replace c3 := cellO hb c3
        replace c4 := cellO hb c4
        replace c5 := cellO hb c5
        replace c6 := cellO hb c6
        replace c7 := cellO hb c7
        replace c8 := cellO hb c8
        replace c9 := cellO hb c9
        replace c10 := cellO hb c10
        replace c11 := cellO hb c11
        clear hb
        go_wp2_with (fail)
        go_at_call 39
        with_reducible refine (HXS.out _ BC).mono ?_
        rintro u w6 ⟨rfl, hb⟩
        replace BC := btO BC hb
        replace c0 := cellO hb c0
        replace c1 := cellO hb c1
        replace c2 := cellO hb c2
        replace c3 := cellO hb c3
        replace c4 := cellO hb c4
        replace c5 := cellO hb c5
        replace c6 := cellO hb c6
        replace c7 := cellO hb c7
        replace c8 := cellO hb c8
        replace c9 := cellO hb c9
        replace c10 := cellO hb c10
        replace c11 := cellO hb c11
        clear hb
        go_wp2_with (fail)
        go_at_call 40
        with_reducible refine (HXD.out _ BC).mono ?_
        rintro u w7 ⟨rfl, hb⟩
        replace BC := btO BC hb
        replace c0 := cellO hb c0
        replace c1 := cellO hb c1
        replace c2 := cellO hb c2
        replace c3 := cellO hb c3
        replace c4 := cellO hb c4
        replace c5 := cellO hb c5
        replace c6 := cellO hb c6
        replace c7 := cellO hb c7
        replace c8 := cellO hb c8
        replace c9 := cellO hb c9
        replace c10 := cellO hb c10
        replace c11 := cellO hb c11
        clear hb
        clear HXK HXS HXD
        go_wp2_with (fail)
        clear hX hX2
        go_loopw [4, 5, 6] (fun a d i wr => ∃ k S D : Nat, k ≤ s.length ∧ a = .int .i64 S ∧ d = .int .i64 D ∧ i = .int .i64 k ∧ Hid (S = 1 + X.xsz + ((s.take k).map Ct.siz).sum) ∧ Hid (D = ((s.take k).map Ct.dep).foldl max X.xdp) ∧ Hid (Below w7.heap.size w7 wr)) (fun _ _ i _ => s.length - (intOf i).toNat)
        case atStart => exact ⟨0, 1 + X.siz, X.dep, Nat.zero_le _, by first | rfl | go_num, by first | rfl | go_num, rfl, by show _ = _; rw [hx1]; simp, by show _ = _; rw [hx2]; rfl, Below.refl _ _⟩
        case round =>
          obtain ⟨k, S, D, hk, rfl, rfl, rfl, HSU, HDE, HW⟩ := hrel
          have hB := btO BC HW.out
          have d0 := cellO HW.out c0
          have d1 := cellO HW.out c1
          have d2 := cellO HW.out c2
          have d3 := cellO HW.out c3
          have d4 := cellO HW.out c4
          have d5 := cellO HW.out c5
          have d6 := cellO HW.out c6
          have d7 := cellO HW.out c7
          have d8 := cellO HW.out c8
          have d9 := cellO HW.out c9
          have d10 := cellO HW.out c10
          have d11 := cellO HW.out c11
          clear c0 c1 c2 c3 c4 c5 c6 c7 c8 c9 c10 c11
          have hS1 := HSU.out
          have hD1 := HDE.out
          by_cases hlt : k < s.length
          · obtain ⟨b, o, rfl, hbq, hpq, e0, e1, e2, e3, e4, e5, e6, e7, e8, e9, e10, e11⟩ := HT1.out.part hlt
            replace e0 := cellO hB e0
            replace e1 := cellO hB e1
            replace e2 := cellO hB e2
            replace e3 := cellO hB e3
            replace e4 := cellO hB e4
            replace e5 := cellO hB e5
            replace e6 := cellO hB e6
            replace e7 := cellO hB e7
            replace e8 := cellO hB e8
            replace e9 := cellO hB e9
            replace e10 := cellO hB e10
            replace e11 := cellO hB e11
            have hpi := hpq.below hB
            have hm : s[k] ∈ s := List.getElem_mem hlt
            have hkt := HKS.out _ hm
            have hyt := Ct.byt_sub HBY.out _ hm
            have HV2 := Lib.hid (HV1.out.below hB)
            have a1 := sum_take9 hlt Ct.siz
            have a2 := sum_take_le9 s (k + 1) Ct.siz
            have b1 := max_take9 hlt Ct.dep X.xdp
            have b2 := max_take_le9 s (k + 1) Ct.dep X.xdp
            generalize s[k] = t at *
            have hs9 : S + t.siz ≤ 500 := by omega
            have hd9 : max D t.dep ≤ 59 := by rw [hD1, ← b1]; omega
            have HSU2 : Hid (S + t.siz = 1 + X.xsz + ((s.take (k + 1)).map Ct.siz).sum) := by show _ = _; omega
            have HDE2 : Hid (max D t.dep = ((s.take (k + 1)).map Ct.dep).foldl max X.xdp) := by show _ = _; rw [b1, ← hD1]
            clear a1 a2 b1 b2 hS1 hD1 hm hpq hbq
            have HPK := Lib.hid (fun W (h : Below wr.heap.size wr W) => (show Calls Tryz.prog 11 #[.agg #[.int .u8 t.k, .string t.f, .string t.t, .string t.n, .int .u8 t.x.k, .string t.x.r, .string t.x.n, .int .i64 t.x.d, .slice t.x.A t.x.sub.length t.x.c, .int .i64 t.d, .slice t.DA t.dl.length t.dc, .slice t.A t.sub.length t.c]] W (IntRO 0 W) from by have := ccheck_any t W (hpi.below h) (by omega) hyt (HV2.out.below h); rw [hkt] at this; exact this))
            have HPS := Lib.hid (fun W (h : Below wr.heap.size wr W) => (show Calls Tryz.prog 20 #[.agg #[.int .u8 t.k, .string t.f, .string t.t, .string t.n, .int .u8 t.x.k, .string t.x.r, .string t.x.n, .int .i64 t.x.d, .slice t.x.A t.x.sub.length t.x.c, .int .i64 t.d, .slice t.DA t.dl.length t.dc, .slice t.A t.sub.length t.c]] W (IntRO t.siz W) from csize_any t W (hpi.below h) (by omega) (zeroOk_any _)))
            have HPD := Lib.hid (fun W (h : Below wr.heap.size wr W) => (show Calls Tryz.prog 22 #[.agg #[.int .u8 t.k, .string t.f, .string t.t, .string t.n, .int .u8 t.x.k, .string t.x.r, .string t.x.n, .int .i64 t.x.d, .slice t.x.A t.x.sub.length t.x.c, .int .i64 t.d, .slice t.DA t.dl.length t.dc, .slice t.A t.sub.length t.c]] W (IntRO t.dep W) from cdepth_any t W (hpi.below h) (by omega) (zeroOk_any _)))
            clear hpi hyt hkt HV2
            have hk0 : (0 : Int) ≤ (k : Int) := by omega
            have hk1 : (k : Int) < (s.length : Int) := by omega
            have BR := Below.refl wr.heap.size wr
            go_wp2_with (fail)
            go_at_call 11
            with_reducible refine (HPK.out _ BR).mono ?_
            rintro u wp ⟨rfl, hb⟩
            replace BR := btO BR hb
            replace d0 := cellO hb d0
            replace d1 := cellO hb d1
            replace d2 := cellO hb d2
            replace d3 := cellO hb d3
            replace d4 := cellO hb d4
            replace d5 := cellO hb d5
            replace d6 := cellO hb d6
            replace d7 := cellO hb d7
            replace d8 := cellO hb d8
            replace d9 := cellO hb d9
            replace d10 := cellO hb d10
            replace d11 := cellO hb d11
            replace e0 := cellO hb e0
            replace e1 := cellO hb e1
            replace e2 := cellO hb e2
            replace e3 := cellO hb e3
            replace e4 := cellO hb e4
            replace e5 := cellO hb e5
            replace e6 := cellO hb e6
            replace e7 := cellO hb e7
            replace e8 := cellO hb e8
            replace e9 := cellO hb e9
            replace e10 := cellO hb e10
            replace e11 := cellO hb e11
            clear hb
            go_wp2_with (fail)
            go_at_call 20
            with_reducible refine (HPS.out _ BR).mono ?_
            rintro u wq ⟨rfl, hb⟩
            replace BR := btO BR hb
            replace d0 := cellO hb d0
            replace d1 := cellO hb d1
            replace d2 := cellO hb d2
            replace d3 := cellO hb d3
            replace d4 := cellO hb d4
            replace d5 := cellO hb d5
            replace d6 := cellO hb d6
            replace d7 := cellO hb d7
            replace d8 := cellO hb d8
            replace d9 := cellO hb d9
            replace d10 := cellO hb d10
            replace d11 := cellO hb d11
            replace e0 := cellO hb e0
            replace e1 := cellO hb e1
            replace e2 := cellO hb e2
            replace e3 := cellO hb e3
            replace e4 := cellO hb e4
            replace e5 := cellO hb e5
            replace e6 := cellO hb e6
            replace e7 := cellO hb e7
            replace e8 := cellO hb e8
            replace e9 := cellO hb e9
            replace e10 := cellO hb e10
            replace e11 := cellO hb e11
            clear hb
            go_wp2_with (fail)
            go_at_call 22
            with_reducible refine (HPD.out _ BR).mono ?_
            rintro u ws ⟨rfl, hb⟩
            replace BR := btO BR hb
            replace d0 := cellO hb d0
            replace d1 := cellO hb d1
            replace d2 := cellO hb d2
            replace d3 := cellO hb d3
            replace d4 := cellO hb d4
            replace d5 := cellO hb d5
            replace d6 := cellO hb d6
            replace d7 := cellO hb d7
            replace d8 := cellO hb d8
            replace d9 := cellO hb d9
            replace d10 := cellO hb d10
            replace d11 := cellO hb d11
            replace e0 := cellO hb e0
            replace e1 := cellO hb e1
            replace e2 := cellO hb e2
            replace e3 := cellO hb e3
            replace e4 := cellO hb e4
            replace e5 := cellO hb e5
            replace e6 := cellO hb e6
            replace e7 := cellO hb e7
            replace e8 := cellO hb e8
            replace e9 := cellO hb e9
            replace e10 := cellO hb e10
            replace e11 := cellO hb e11
            clear hb
            clear HPK HPS HPD
            by_cases hmx : D < t.dep
            · have hq2 : max (D : Int) (t.dep : Int) = (t.dep : Int) := by omega
              have hq3 : max D t.dep = t.dep := by omega
              rw [hq3] at HDE2
              go_wp2_with (fail)
              go_roundw
              case rel => exact ⟨k + 1, S + t.siz, t.dep, by omega, by go_num, by go_num, by go_num, HSU2, HDE2, btO HW.out BR⟩
              case measure => simp [intOf]; omega
            · have hq2 : max (D : Int) (t.dep : Int) = (D : Int) := by omega
              have hq3 : max D t.dep = D := by omega
              rw [hq3] at HDE2
              go_wp2_with (fail)
              go_roundw
              case rel => exact ⟨k + 1, S + t.siz, D, by omega, by go_num, by go_num, by go_num, HSU2, HDE2, btO HW.out BR⟩
              case measure => simp [intOf]; omega
          · obtain rfl : k = s.length := by omega
            rw [List.take_length] at hS1 hD1
            rw [← hS1] at HS hz
            rw [← hD1] at HD hd
            have HD2 := Lib.hid (fun W (h : Below w1.heap.size w1 W) => (show Calls Tryz.prog 22 #[.agg #[.int .u8 kk, .string ff, .string tt, .string nn, .int .u8 X.k, .string X.r, .string X.n, .int .i64 X.d, .slice X.A X.sub.length X.c, .int .i64 dd, .slice DA dl.length dc, .slice A s.length c]] W (IntRO ((D : Int) + 1) W) from by have := HD.out W h; rw [show ((D + 1 : Nat) : Int) = (D : Int) + 1 by omega] at this; exact this))
            clear HD hS1 hD1 HSU HDE HT1 HBY HKS HV1 hx1 hx2
            have hD8 : (D : Int) ≤ 59 := by omega
            have BR := Below.refl wr.heap.size wr
            go_wp2_with (fail)
            go_at_call 20
            with_reducible refine (HS.out _ (btO hB BR)).mono ?_
            rintro u wp ⟨rfl, hb⟩
            replace BR := btO BR hb
            replace d0 := cellO hb d0
            replace d1 := cellO hb d1
            replace d2 := cellO hb d2
            replace d3 := cellO hb d3
            replace d4 := cellO hb d4
            replace d5 := cellO hb d5
            replace d6 := cellO hb d6
            replace d7 := cellO hb d7
            replace d8 := cellO hb d8
            replace d9 := cellO hb d9
            replace d10 := cellO hb d10
            replace d11 := cellO hb d11
            clear hb
            go_wp2_with (fail)
            go_at_call 22
            with_reducible refine (HD2.out _ (btO hB BR)).mono ?_
            rintro u wq ⟨rfl, hb⟩
            replace BR := btO BR hb
            replace d0 := cellO hb d0
            replace d1 := cellO hb d1
            replace d2 := cellO hb d2
            replace d3 := cellO hb d3
            replace d4 := cellO hb d4
            replace d5 := cellO hb d5
            replace d6 := cellO hb d6
            replace d7 := cellO hb d7
            replace d8 := cellO hb d8
            replace d9 := cellO hb d9
            replace d10 := cellO hb d10
            replace d11 := cellO hb d11
            clear hb
            go_wp2_with (fail)
            go_ret
            exact ⟨rfl, btO HB1.out (btO hB BR)⟩
    · have hk1 : (Ct.chk (.mk kk ff tt nn X dd DA dl dc A c s) != 0) = true := by rw [bne_iff_ne]; exact hk
      generalize Ct.chk (.mk kk ff tt nn X dd DA dl dc A c s) = R at *
      clear HT1 HV1 HX1 HBY
      go_wp2_with (fail)
      go_ret
      exact ⟨rfl, btO HB1.out BC⟩
end Go.Proofs.YtalejbabhjlehaaGreatDoor

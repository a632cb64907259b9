/- The walks of the reference of layer 1: long division. -/
import Derived.Test.YtlipjedofegciaaDoorIntQ2
import Derived.Deep.CutBlock
import Derived.Deep.DeepCutAuto
namespace Go.Proofs.YtlipjedofegciaaDoor
open Go Go.RowKit

def TopR (ys : List Nat) (v : Value) : Prop := ∃ n : Nat, v = .int .i64 n ∧ Hid (TopN ys n)
def cellN (w : World) (a : Addr) : Nat := match w.cell? a with | some (.int _ n) => n.toNat | _ => 0
theorem cellN_of {w : World} {a : Addr} {n : Nat} (h : w.cell? a = some (.int .i64 (n : Int))) : cellN w a = n := by unfold cellN; rw [h]; rfl

theorem own_bel {w w' : World} {base e g n B : Nat} {xs : List Value} (h : w.ownsRow base e 1 (.slice (some ⟨g, 0, none⟩) n n) n xs) (hb : Below B w w') (hg : g < B) (hn : n ≤ maxLen) : w'.ownsRow base e 1 (.slice (some ⟨g, 0, none⟩) n n) n xs := by
  obtain ⟨h1, h2, h3⟩ := own_row h
  exact row_own ((hb.block g hg).trans h1) h2 h3 hn
theorem own_cellI {w : World} {base e g n cap : Nat} {os : List Nat} (h : w.ownsRow base e 1 (.slice (some ⟨g, 0, none⟩) n cap) n (os.map encI)) (j : Nat) (hj : j < os.length) : w.cell? ⟨g, j, none⟩ = some (.int .i64 ((os.getD j 0 : Nat) : Int)) := by
  rw [h.cellAt j (by have := h.1; simp at this; omega), List.getElem?_map, List.getElem?_eq_getElem hj]
  simp [List.getD_eq_getElem?_getD, hj, encI]

set_option maxRecDepth 100000 in
set_option maxHeartbeats 1600000 in
theorem refDivide_any (A B : Option Addr) (ca cb : Nat) (xs ys : List Nat) (w : World) (hA : SlA encI w A xs) (hB : SlA encI w B ys) (ha : ∀ d ∈ xs, d < 10) (hb : ∀ d ∈ ys, d < 10) (hla : xs.length ≤ 1073741824) (hlb : ys.length ≤ 1073741824) (hcb : ys.length ≤ cb) (hcm : cb ≤ maxLen)
    (hV : 0 < vl 10 ys) (K : Nat) (hVK : vl 10 ys < 10 ^ K) :
    Calls Tryd.prog 67 #[.slice A xs.length ca, .slice B ys.length cb] w fun e w' => ∃ A1 c1 qs A2 c2 rs, e = .returned (.tuple #[.slice A1 qs.length c1, .slice A2 rs.length c2]) ∧ SlA encI w' A1 qs ∧ SlF w' 0 A2 rs c2 ∧
      (∀ d ∈ qs, d < 10) ∧ (∀ d ∈ rs, d < 10) ∧ qs.length = xs.length ∧ rs.length ≤ K + 1 ∧ vl 10 qs = vl 10 xs / vl 10 ys ∧ vl 10 rs = vl 10 xs % vl 10 ys ∧ Below w.heap.size w w' := by
  obtain ⟨i0, hi, hz0, hz1, hz2⟩ := info_parts Tryd.info3'
  have hyl : 1 ≤ ys.length := by
    rcases Nat.eq_zero_or_pos ys.length with h | h
    · rw [List.eq_nil_of_length_eq_zero h] at hV; simp [vl] at hV
    · exact h
  have HS : Hid (TopInv ys ys.length) := by show _ = _; rw [List.take_of_length_le (Nat.le_refl _)]
  have HV := Lib.hid hV
  have HVK := Lib.hid hVK
  have HDA := Lib.hid (getD_lt 10 xs ha (by omega))
  have HDB := Lib.hid hb
  unfold maxLen at hcm
  clear hV hVK ha hb
  go_enter Tryd.func67, Tryd.ntmps67
  go_upto_block 0 with fail
  go_cut [6] from 12 to 23 (fun n wc => TopR ys n ∧ wc = w)
  case first =>
    go_wp2_with fail
    go_loopw [6] (fun n wr => ∃ j : Nat, n = .int .i64 j ∧ 1 ≤ j ∧ j ≤ ys.length ∧ Hid (TopInv ys j) ∧ wr = w) (fun n _ => (intOf n).toNat)
    case atStart => exact ⟨ys.length, rfl, hyl, Nat.le_refl _, HS, rfl⟩
    case round =>
      obtain ⟨j, rfl, h1, h2, hinv, rfl⟩ := hrel
      by_cases hj : j = 1
      · subst hj
        have HT := Lib.hid (hinv.out.one hyl HV.out)
        clear hinv HS
        go_wp2
        go_meet
        case rel => exact ⟨⟨1, rfl, HT⟩, rfl⟩
      · obtain ⟨k, rfl⟩ : ∃ k, j = k + 1 := ⟨j - 1, by omega⟩
        have hk : k < ys.length := by omega
        obtain ⟨b, o, rfl, hb, hc0⟩ := hB.get hk
        have ex : ys[k] = ys.getD k 0 := by simp [List.getD_eq_getElem?_getD, hk]
        rw [ex] at hc0
        have HI := Lib.hid (fun h0 => hinv.out.step (j := k) h0)
        have HT := Lib.hid (fun h0 => hinv.out.stop (j := k) h2 h0)
        have hk1 : 1 ≤ k := by omega
        clear hinv ex HS hj
        generalize ys.getD k 0 = x at *
        unfold encI at hc0
        by_cases h0 : x = 0
        · have HI2 := Lib.hid (HI.out h0)
          clear HI HT
          subst h0
          go_wp2
          go_roundw
          case rel => exact ⟨k, by go_num, hk1, by omega, HI2, trivial⟩
          case measure => simp [intOf]
        · have HT2 := Lib.hid (HT.out h0)
          have hx0 : ((x : Int) == 0) = false := by rw [beq_eq_false_iff_ne]; omega
          clear HI HT h0
          go_wp2
          go_meet
          case rel => exact ⟨⟨k + 1, rfl, HT2⟩, rfl⟩
  case rest =>
    obtain ⟨⟨n, rfl, ht⟩, rfl⟩ := hcut
    obtain ⟨zs, hzs⟩ : ∃ zs, ys.take n = zs := ⟨_, rfl⟩
    have hzl : zs.length = n := by rw [← hzs, List.length_take]; have := ht.out.2.2.1; omega
    have HB : Hid (SlA encI wc B zs) := by rw [← hzs]; exact Lib.hid hB.take
    have HDZ : Hid (∀ d ∈ zs, d < 10) := by rw [← hzs]; exact fun d hd => HDB.out d (List.mem_of_mem_take hd)
    have HVZ : Hid (vl 10 zs = vl 10 ys) := by rw [← hzs]; exact ht.out.1
    have HVN : Hid (vl 10 ys < 10 ^ zs.length) := by rw [hzl]; exact ht.out.lt HDB.out
    have hnK : zs.length ≤ K := by rw [hzl]; exact ht.out.le HVK.out
    have hz1' : 1 ≤ zs.length := by rw [hzl]; exact ht.out.2.1
    have hzy : zs.length ≤ ys.length := by rw [hzl]; exact ht.out.2.2.1
    subst hzl
    clear hB HS ht hzs HVK HDB hyl
    have hz0' : (0 : Int) ≤ (zs.length : Int) := by omega
    have hzc : (zs.length : Int) ≤ (cb : Int) := by omega
    go_wp2_with (at_make; refine wpList_make_full _ rfl _ _ 86 rfl wc.heap.size 3 i0 (.int .i64 0) 1 Tryd.underlying86 hi hz0 hz1 _ _ _ _ xs.length rfl rfl (by omega) (by omega) (by rw [hz2]; omega) (by unfold maxLen; omega) (Nat.le_refl _) ?_; intro w1 hown hg1)
    have hb1 : Below wc.heap.size wc w1 := (Below.refl _ _).grown hg1 (Nat.le_refl _) (fun k hk => by cases hk)
    have hown : w1.ownsRow wc.heap.size 3 1 (.slice (some ⟨wc.heap.size, 0, none⟩) xs.length xs.length) xs.length ((List.replicate xs.length 0).map encI) := by
      have e : (madeCells (Value.int .i64 0).cells (xs.length * 1)).toList = (List.replicate xs.length 0).map encI := by
        rw [Nat.mul_one]
        show (madeCells #[Value.int .i64 0] _).toList = _
        rw [toList_madeCells_one]; simp [encI]
      rw [e] at hown; exact hown
    have hsz1 : wc.heap.size < w1.heap.size := lt_of_block (own_row hown).1
    go_loopw [8, 9] (fun r i wr => ∃ (j c : Nat) (A2 : Option Addr) (rs qs : List Nat), j ≤ xs.length ∧ i = .int .i64 ((j : Int) - 1) ∧ r = .slice A2 rs.length c ∧ SlF wr (wc.heap.size + 1) A2 rs c ∧
        wr.ownsRow wc.heap.size 3 1 (.slice (some ⟨wc.heap.size, 0, none⟩) xs.length xs.length) xs.length (qs.map encI) ∧ Hid (RdInv xs (vl 10 ys) zs.length rs qs j) ∧ Below wc.heap.size wc wr) (fun _ i _ => (intOf i + 1).toNat)
    case atStart => exact ⟨xs.length, 0, none, [], _, Nat.le_refl _, rfl, rfl, SlF.nil _ _, hown, RdInv.start _ _ _ HV.out, hb1⟩
    case round =>
      clear hown hg1 hb1 hsz1
      obtain ⟨j, c, A2, rs, qs, hj, rfl, rfl, hF, hown, hinv, hbel⟩ := hrel
      cases j with
      | zero =>
        have e0 : (((0 : Nat) : Int) - 1) = -1 := rfl
        rw [e0]
        clear e0
        go_wp2
        go_ret2
        have hql := hinv.out.ql
        obtain ⟨f1, f2⟩ := hinv.out.last
        have hS : SlA encI wr (some ⟨wc.heap.size, 0, none⟩) qs := by
          obtain ⟨A1, c1, h1, _, hS⟩ := SlA.of_own hown
          injection h1 with h1
          rw [h1]; exact hS
        exact ⟨some ⟨wc.heap.size, 0, none⟩, xs.length, qs, A2, c, rs, by rw [hql]; rfl, hS, ⟨hF.sl, hF.room, hF.most, hF.none0, fun _ _ => Nat.zero_le _⟩, mem_getD qs 10 (fun t _ => hinv.out.qlt t), hinv.out.rlt, hql, by have := hinv.out.len; omega, f1, f2, hbel⟩
      | succ i =>
        have ej : ((i + 1 : Nat) : Int) - 1 = (i : Int) := by omega
        rw [ej]
        clear ej
        have hil : i < xs.length := hj
        obtain ⟨b, o, hAe, hb0, hc0⟩ := (hA.below hbel).get hil
        have ex : xs[i] = xs.getD i 0 := by simp [List.getD_eq_getElem?_getD, hil]
        rw [ex] at hc0
        have hx := HDA.out i
        have HD1 := Lib.hid (hinv.out.digit hx HVN.out)
        have HD2 := Lib.hid (fun hl => hinv.out.digit' hx HVN.out hl)
        have hrl := hinv.out.len
        have hsz := hbel.size
        clear ex hinv
        generalize xs.getD i 0 = x at *
        unfold encI at hc0
        have hi0 : (0 : Int) ≤ (i : Int) := by omega
        have hi1 : (i : Int) < (xs.length : Int) := by omega
        subst hAe
        have hlit : (wr.alloc (.cells #[.int .i64 (x : Int)] 3)).ownsRow wr.heap.size 3 1 (.slice (some ⟨wr.heap.size, 0, none⟩) 1 1) 1 [.int .i64 (x : Int)] := row_own (heap_alloc_new wr _) (Nat.le_refl _) rfl (by unfold maxLen; omega)
        have hb2 : Below wr.heap.size wr (wr.alloc (.cells #[.int .i64 (x : Int)] 3)) := (Below.refl _ _).alloc (Nat.le_refl _) _
        have hF2 := hF.below hb2
        have hgq := lt_of_block (own_row hown).1
        have hx63 : xs.length ≤ maxLen := by unfold maxLen; omega
        have HO := Lib.hid (fun w' (h : Below wr.heap.size wr w') => own_bel hown h hgq hx63)
        by_cases hcut : zs.length < rs.length
        all_goals
          go_wp2_with (
            at_builtin
            refine wpList_appS hlit (enc := encI) (fun _ => rfl) A2 rs rs.length c rfl hF2.sl hF2.none0 rfl _ _ 86 rfl i0 (.int .i64 0) 8 Tryd.underlying86 hi hz0 hz1 hz2 rfl rfl rfl (by unfold maxLen; omega) (by omega) (by simp) ?_
            intro v' w2 hown2 hb3
            rw [Nat.add_comm] at hown2
            obtain ⟨A3, c3, rfl, hF3⟩ := SlF.of_own (os := x :: rs) (base' := wc.heap.size + 1) hown2 hgq
            rw [List.length_cons]
            have hr3 := hF3.room
            have hm3 := hF3.most
            rw [List.length_cons] at hr3
            unfold maxLen at hm3
            have hb4 := hb2.trans hb3
            have hown3 := HO.out _ hb4
            have hbel3 := hbel.trans (hb4.mono hsz)
            clear hF2 hlit hown2 hb3 hF HO)
          have hIN : ∃ ts, Hid (RdIn xs (vl 10 ys) zs.length ts qs i) ∧ SlF w2 (wc.heap.size + 1) A3 ts c3 ∧ (ts = (x :: rs).take (zs.length + 1) ∨ ts = x :: rs) ∧ (zs.length < rs.length → ts = (x :: rs).take (zs.length + 1)) ∧ (¬ zs.length < rs.length → ts = x :: rs) := by
            by_cases hc : zs.length < rs.length
            · exact ⟨_, HD1, hF3.take _, .inl rfl, fun _ => rfl, fun h => absurd hc h⟩
            · exact ⟨_, HD2.out (by omega), hF3, .inr rfl, fun h => absurd h hc, fun _ => rfl⟩
          obtain ⟨ts, HIN, hFT, _, ht1, ht2⟩ := hIN
          have hlv : ∀ l : Nat, (zs.length < rs.length → l = zs.length + 1) → (¬ zs.length < rs.length → l = rs.length + 1) → ts.length = l := fun l h1 h2 => by
            by_cases hc : zs.length < rs.length
            · rw [ht1 hc, h1 hc, List.length_take, List.length_cons]; omega
            · rw [ht2 hc, h2 hc, List.length_cons]
          have HTL : Hid (ts.length = if zs.length < rs.length then zs.length + 1 else rs.length + 1) := hlv _ (fun h => by rw [if_pos h]) (fun h => by rw [if_neg h])
          clear ht1 ht2 hlv HD1 HD2 hF3 hr3 hown hb2 hb4 hbel hc0
          go_loopw [8] (fun r wr => ∃ (c5 : Nat) (A5 : Option Addr) (rs5 qs5 : List Nat), r = .slice A5 rs5.length c5 ∧ SlF wr (wc.heap.size + 1) A5 rs5 c5 ∧
              wr.ownsRow wc.heap.size 3 1 (.slice (some ⟨wc.heap.size, 0, none⟩) xs.length xs.length) xs.length (qs5.map encI) ∧ Hid (RdIn xs (vl 10 ys) zs.length rs5 qs5 i) ∧ Below wc.heap.size wc wr) (fun _ wr => 10 - cellN wr ⟨wc.heap.size, i, none⟩)
          case atStart => exact ⟨c3, A3, ts, qs, by rw [HTL.out]; simp [hcut], hFT, hown3, HIN, hbel3⟩
          case round =>
            clear HIN hown3 hbel3 hFT HTL
            obtain ⟨c5, A5, rs5, qs5, rfl, hF5, hown5, hin5, hbel5⟩ := hrel
            have hq5 := hin5.out.ql
            have hl5 := hin5.out.len
            have hS5 := hF5.sl
            have HG := Lib.hid (greater_any A5 B c5 cb rs5 zs wr hS5 (HB.out.below hbel5) hin5.out.rlt HDZ.out (by omega) (by omega))
            by_cases hge : vl 10 ys ≤ vl 10 rs5
            · obtain ⟨cv, hcv, hcv0⟩ : ∃ cv : Int, cmpN (vl 10 rs5) (vl 10 zs) = cv ∧ 0 ≤ cv := ⟨_, rfl, by unfold cmpN; rw [HVZ.out]; split <;> (try split) <;> omega⟩
              rw [hcv] at HG
              have HM := Lib.hid (minus_any A5 B c5 cb rs5 zs wr hS5 (HB.out.below hbel5) hin5.out.rlt HDZ.out (by omega) (by rw [HVZ.out]; exact hge))
              rw [HVZ.out] at HM
              have HST := Lib.hid (fun rs' h1 h2 h3 => hin5.out.step hil hge rs' h1 h2 h3)
              have hcell := own_cellI hown5 i (by omega)
              have HM0 : Hid (cellN wr ⟨wc.heap.size, i, none⟩ = qs5.getD i 0) := cellN_of hcell
              have hgq5 := lt_of_block (own_row hown5).1
              have HO5 := Lib.hid (fun w' (h : Below wr.heap.size wr w') => own_bel hown5 h hgq5 hx63)
              obtain ⟨y, hy⟩ : ∃ y, qs5.getD i 0 = y := ⟨_, rfl⟩
              rw [hy] at HST HM0
              have HY := Lib.hid hy
              clear hcv hge hcell hin5 hown5 hF5 hS5 hy
              go_wp2_with (first
                | (go_at_call 62; refine HG.out.mono ?_; rintro e w' ⟨rfl, rfl⟩)
                | (go_at_call 63; refine HM.out.mono ?_; rintro e w6 ⟨v6, os6, rfl, hown6, hb6, hl6, hd6, hv6⟩
                   obtain ⟨A6, c6, rfl, hF6⟩ := SlF.of_own (base' := wc.heap.size + 1) hown6 hgq5
                   have HST6 := Lib.hid (HST.out os6 hd6 hv6 hl6)
                   have hq6 := HO5.out _ hb6
                   have hcell6 := own_cellI hq6 i (by omega)
                   rw [HY.out] at hcell6
                   have HM1 : Hid (cellN (w6.setCell ⟨wc.heap.size, i, none⟩ (.int .i64 ((y : Int) + 1))) ⟨wc.heap.size, i, none⟩ = y + 1) := by
                     have := own_cellI (own_set' hq6 i (y + 1) (Int.natCast_add y 1)) i (by simp; omega)
                     rw [getD_set, if_pos ⟨rfl, by omega⟩] at this
                     exact cellN_of this
                   have hfr6 := hq6.frozenAt i
                   have hbel6 := hbel5.trans (hb6.mono hbel5.size)
                   have hq8 := HST6.out.2
                   have HL6 := Lib.hid hl6
                   clear hown6 hd6 hv6 hl6 HO5 HST hb6))
              go_roundw
              case rel => exact ⟨c6, A6, os6, qs5.set i (y + 1), rfl, hF6.setCell (by omega) _, own_set' hq6 i (y + 1) (Int.natCast_add y 1), HST6.out.1, hbel6.setCell (p := ⟨wc.heap.size, i, none⟩) (Nat.le_refl _) _⟩
              case measure => rw [HM1.out, HM0.out]; omega
            · have hcv : cmpN (vl 10 rs5) (vl 10 zs) = -1 := by unfold cmpN; rw [HVZ.out, if_neg (by omega), if_pos (by omega)]
              rw [hcv] at HG
              have HI5 := Lib.hid (hin5.out.stop (by omega))
              clear hcv hin5 hge
              go_wp2_with (go_at_call 62; refine HG.out.mono ?_; rintro e w' ⟨rfl, rfl⟩)
              go_roundw
              case rel => exact ⟨i, c5, A5, rs5, qs5, by omega, rfl, rfl, hF5, hown5, HI5, hbel5⟩
              case measure => simp [intOf]
end Go.Proofs.YtlipjedofegciaaDoor

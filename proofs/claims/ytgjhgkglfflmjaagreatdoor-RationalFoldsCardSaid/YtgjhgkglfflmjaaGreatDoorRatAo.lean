/- The walks of layer 2: Sum. -/
import Derived.Test.YtgjhgkglfflmjaaGreatDoorRatAm
import Derived.OwnWalk
import Derived.Laws.OwnMore
namespace Go.Proofs.YtgjhgkglfflmjaaGreatDoor
open Go Go.RowKit
theorem Tryz.infoF' : (Tryz.prog.info? 60).map (fun i => (i.zero, i.size, i.bytes)) = some (some (.agg #[.string ⟨#[]⟩, .string ⟨#[]⟩]), 2, 32) := by kernel_rfl
/-- A row of parsed fractions, as far as it goes. -/
def RowP (qs : List Rat) (xs : List Value) : Prop := ∀ j q, qs[j]? = some q → xs[j * 2]? = some (.string (rep q.num)) ∧ xs[j * 2 + 1]? = some (.string (rep (q.den : Int)))
theorem RowP.step {qs : List Rat} {xs : List Value} {q : Rat} (h : RowP qs xs) (hl : qs.length * 2 + 1 < xs.length) : RowP (qs ++ [q]) ((xs.set (qs.length * 2) (.string (rep q.num))).set (qs.length * 2 + 1) (.string (rep (q.den : Int)))) := by
  intro j x hx
  rw [List.getElem?_append] at hx
  split at hx
  · next g =>
    obtain ⟨h1, h2⟩ := h j x hx
    rw [List.getElem?_set_ne (by omega), List.getElem?_set_ne (by omega), List.getElem?_set_ne (by omega), List.getElem?_set_ne (by omega)]
    exact ⟨h1, h2⟩
  · next g =>
    have hj : j = qs.length := by
      rcases Nat.lt_or_ge (j - qs.length) 1 with g2 | g2
      · omega
      · rw [List.getElem?_eq_none (by simpa using g2)] at hx; cases hx
    subst hj
    rw [Nat.sub_self] at hx
    obtain rfl : q = x := by simpa using hx
    rw [List.getElem?_set_ne (by omega), List.getElem?_set_self (by omega), List.getElem?_set_self (by rw [List.length_set]; omega)]
    exact ⟨rfl, rfl⟩
theorem own_below {w w' : World} {base e size g n cap : Nat} {xs : List Value} (h : w.ownsRow base e size (.slice (some ⟨g, 0, none⟩) n cap) n xs) (b : Below w.heap.size w w') : w'.ownsRow base e size (.slice (some ⟨g, 0, none⟩) n cap) n xs := by
  refine ⟨h.1, ?_⟩
  rcases h.2 with ⟨hv, _⟩ | ⟨g2, cap2, cur, hv, h1, h2, h3, h4, h5, h6⟩
  · cases hv
  · exact .inr ⟨g2, cap2, cur, hv, h1, (b.block _ (lt_of_block h2)).trans h2, h3, h4, h5, h6⟩
theorem own_st {w : World} {base e size g n cap : Nat} {xs : List Value} (h : w.ownsRow base e size (.slice (some ⟨g, 0, none⟩) n cap) n xs) (j : Nat) (u : Value) :
    (w.setCell ⟨g, j, none⟩ u).ownsRow base e size (.slice (some ⟨g, 0, none⟩) n cap) n (xs.set j u) := (h.stored j u).1
theorem own_heap {w w' : World} {base e size g n cap : Nat} {xs : List Value} (h : w.ownsRow base e size (.slice (some ⟨g, 0, none⟩) n cap) n xs) (b : w'.heap[g]? = w.heap[g]?) : w'.ownsRow base e size (.slice (some ⟨g, 0, none⟩) n cap) n xs := by
  refine ⟨h.1, ?_⟩
  rcases h.2 with ⟨hv, _⟩ | ⟨g2, cap2, cur, hv, h1, h2, h3, h4, h5, h6⟩
  · cases hv
  · have e : g2 = g := by simp at hv; exact hv.1.symm
    subst e
    exact .inr ⟨g2, cap2, cur, hv, h1, b.trans h2, h3, h4, h5, h6⟩
theorem sc2_other {w : World} {r q : Nat} {v1 v2 : Value} (hne : q ≠ r) : ((w.setCell ⟨q, 0, none⟩ v1).setCell ⟨q, 1, none⟩ v2).heap[r]? = w.heap[r]? := by
  simp only [World.setCell, Array.getElem?_modify, if_neg hne]
theorem sc2_row {w : World} {q : Nat} {a b v1 v2 : Value} {t : TypeId} (h : w.heap[q]? = some (.cells #[a, b] t (0, 0))) : ((w.setCell ⟨q, 0, none⟩ v1).setCell ⟨q, 1, none⟩ v2).heap[q]? = some (.cells #[v1, v2] t (0, 0)) := by
  simp [World.setCell, Array.getElem?_modify, h]
theorem alloc_old {w : World} {r : Nat} {o : Obj} (h : r < w.heap.size) : (w.alloc o).heap[r]? = w.heap[r]? := by
  show (w.heap.push o)[r]? = _
  rw [Array.getElem?_push, if_neg (by omega)]
theorem zero_row : rep (Rat.num 0) = ⟨#[48]⟩ ∧ rep ((Rat.den 0 : Nat) : Int) = ⟨#[49]⟩ := by decide +kernel
/-- The sums, one after the other, and the first error. -/
def sumS (t : Rat) : List Rat → Rat × Int
  | [] => (t, 0)
  | q :: r => if addC t q = 0 then sumS (t + q) r else (t, addC t q)
set_option maxRecDepth 100000 in
set_option maxHeartbeats 1600000 in
theorem sum_walk2 (A : Option Addr) (c : Nat) (ss : List ByteArray) (w : World) (hA : SlA Value.string w A ss) (hs : ss.length ≤ 1000) (hz : ∀ s ∈ ss, s.size ≤ 1048576) (hv : VarR w) (R : ByteArray) (cc : Int)
    (HB : ∀ k (h : k < ss.length), ¬ chkR ss[k].data.toList = 0 → (∀ j (hj : j < k), chkR ss[j].data.toList = 0) → R = ⟨#[]⟩ ∧ cc = chkR ss[k].data.toList)
    (HO : ∀ qs : List Rat, ss = qs.map rq → (∀ q ∈ qs, Sml q) → cc = (sumS 0 qs).2 ∧ (cc = 0 → R = rq (sumS 0 qs).1) ∧ (¬ cc = 0 → R = ⟨#[]⟩)) :
    Calls Tryz.prog 20 #[.slice A ss.length c] w (StE R cc w) := by
  obtain ⟨i0, hi, hz0, hz1, hz2⟩ := info_parts Tryz.infoF'
  have HV := Lib.hid hv
  have HBB := Lib.hid HB
  have HOO := Lib.hid HO
  have HZ := Lib.hid hz
  clear hv HB hz HO
  go_enter Tryz.func20, Tryz.ntmps20
  go_wp2_with (at_make; refine wpList_make_full _ rfl _ _ 78 rfl w.heap.size 60 i0 (.agg #[.string ⟨#[]⟩, .string ⟨#[]⟩]) 2 Tryz.underlying78 hi hz0 hz1 _ _ _ _ ss.length rfl rfl (by omega) (by omega) (by rw [hz2]; omega) (by unfold maxLen; omega) (Nat.le_refl _) ?_; intro w1 hown hg1)
  have hb1 : Below w.heap.size w w1 := (Below.refl _ _).grown hg1 (Nat.le_refl _) (fun k hk => by cases hk)
  go_loopw [21] (fun i wr => ∃ (qs : List Rat) (xs : List Value), qs.length ≤ ss.length ∧ i = .int .i64 qs.length ∧ Hid (ss.take qs.length = qs.map rq) ∧ Hid (∀ q ∈ qs, Sml q) ∧ wr.ownsRow w.heap.size 60 2 (.slice (some ⟨w.heap.size, 0, none⟩) ss.length ss.length) ss.length xs ∧ Hid (RowP qs xs) ∧ Below w.heap.size w wr) (fun i _ => ss.length - (intOf i).toNat)
  case atStart => exact ⟨[], _, by simp, rfl, by simp [Hid], by simp [Hid], hown, fun j q h => by simp at h, hb1⟩
  case round =>
    clear hown hg1 hb1
    obtain ⟨qs, xs, hk, rfl, ht, hsm, hown, hrow, hbel⟩ := hrel
    by_cases hlt : qs.length < ss.length
    · obtain ⟨b, o, rfl, _, hc⟩ := (hA.below hbel).get hlt
      have hxz : ss[qs.length].size ≤ 1048576 := HZ.out _ (List.getElem_mem hlt)
      have HB := Lib.hid (HBB.out qs.length hlt)
      rcases text_cases ss[qs.length] with h1 | ⟨q, hq, hsq⟩
      · obtain ⟨e1, e2⟩ := HB.out h1 (fun j hj => by
          have hm : ss[j] ∈ ss.take qs.length := by
            rw [List.mem_take_iff_getElem]
            exact ⟨j, by omega, rfl⟩
          rw [ht.out, List.mem_map] at hm
          obtain ⟨x, hx, hx2⟩ := hm
          rw [← hx2]
          exact rq_chk (hsm.out x hx))
        have JP := Lib.hid (fun W hW => parse_e ss[qs.length] hxz h1 W hW)
        rw [← e2] at JP h1
        subst e1
        clear e2
        generalize ss[qs.length] = x at *
        have hcz : (cc == 0) = false := by rw [beq_eq_false_iff_ne]; exact h1
        clear hA h1 HB hown
        go_wp2_with (go_at_call 38; refine (JP.out _ (HV.out.below hbel)).mono ?_; rintro e w2 ⟨rfl, b⟩; have B2 := Lib.hid ((bt hbel b).alloc (bt hbel b).size (.cells #[.string ⟨#[]⟩, .string ⟨#[]⟩] 60)); clear b)
        go_ret2
        exact ⟨rfl, B2.out⟩
      · rw [hq] at hc
        have JP := Lib.hid (fun W hW => parse_q q hsq W hW)
        have hl := hown.1
        obtain ⟨v1, hv1⟩ : ∃ v, xs[qs.length * 2]? = some v := ⟨_, List.getElem?_eq_getElem (by omega)⟩
        obtain ⟨v2, hv2⟩ : ∃ v, xs[qs.length * 2 + 1]? = some v := ⟨_, List.getElem?_eq_getElem (by omega)⟩
        clear hA
        go_wp2_with (go_at_call 38; refine (JP.out _ (HV.out.below hbel)).mono ?_; rintro e w2 ⟨rfl, b⟩; have hown2 := Lib.hid ((own_below hown b).alloc (.cells #[.string (rep q.num), .string (rep (q.den : Int))] 60)); have hfr := hown2.out.frozenAt (qs.length * 2); have hfr2 := hown2.out.frozenAt (qs.length * 2 + 1); have hc1 := (hown2.out.cellAt (qs.length * 2) (by omega)).trans hv1; have hc2 := (hown2.out.cellAt (qs.length * 2 + 1) (by omega)).trans hv2; have B2 := Lib.hid ((bt hbel b).alloc (bt hbel b).size (.cells #[.string (rep q.num), .string (rep (q.den : Int))] 60)); clear b)
        go_roundw
        case rel =>
          refine ⟨qs ++ [q], _, by rw [List.length_append, List.length_singleton]; omega, by rw [List.length_append]; go_num, ?_, ?_, own_st (own_st hown2.out _ _) _ _, ?_, ?_⟩
          · show ss.take (qs ++ [q]).length = _
            rw [List.length_append, List.length_singleton, take_snoc ss _ hlt, ht.out, hq, List.map_append]; rfl
          · intro x hx
            rcases List.mem_append.1 hx with g | g
            · exact hsm.out x g
            · rw [List.mem_singleton.1 g]; exact hsq
          · exact hrow.out.step (by omega)
          · exact (B2.out.setCell (p := ⟨w.heap.size, qs.length * 2, none⟩) (Nat.le_refl _) _).setCell (p := ⟨w.heap.size, qs.length * 2 + 1, none⟩) (Nat.le_refl _) _
        case measure => simp [intOf]; omega
    · have hn : qs.length = ss.length := by omega
      rw [hn] at ht hlt ⊢
      have HQ := Lib.hid (HOO.out qs (by rw [← ht.out, List.take_of_length_le (Nat.le_refl _)]) hsm.out)
      have hg := hown.lt w.heap.size rfl
      have hgs := hg.2
      have BT := Lib.hid (hbel.alloc hbel.size (.cells #[.string ⟨#[48]⟩, .string ⟨#[49]⟩] 60))
      have OT := Lib.hid (hown.alloc (.cells #[.string ⟨#[48]⟩, .string ⟨#[49]⟩] 60))
      have GT := Lib.hid (heap_alloc_new wr (.cells #[.string ⟨#[48]⟩, .string ⟨#[49]⟩] 60))
      obtain ⟨TB, hTB⟩ : ∃ T, wr.heap.size = T := ⟨_, rfl⟩
      rw [hTB] at GT hgs
      clear hA hlt HBB hg hown hk
      go_wp2
      generalize wr.alloc (.cells #[.string ⟨#[48]⟩, .string ⟨#[49]⟩] 60) = wt at *
      go_loopw [42] (fun i wl => ∃ (k : Nat) (t : Rat), k ≤ ss.length ∧ i = .int .i64 k ∧ Hid (Sml t ∧ sumS 0 qs = sumS t (qs.drop k)) ∧ wl.ownsRow w.heap.size 60 2 (.slice (some ⟨w.heap.size, 0, none⟩) ss.length ss.length) ss.length xs ∧ wl.heap[TB]? = some (.cells #[.string (rep t.num), .string (rep (t.den : Int))] 60 (0, 0)) ∧ Below w.heap.size w wl) (fun i _ => ss.length - (intOf i).toNat)
      case atStart =>
        exact ⟨0, 0, Nat.zero_le _, rfl, ⟨qd_zero.sml (by omega), rfl⟩, OT.out, by rw [zero_row.1, zero_row.2]; exact GT.out, BT.out⟩
      case round =>
        obtain ⟨k, t, hk, rfl, hst, hown, hG, hbel2⟩ := hrel
        clear BT OT GT
        obtain ⟨k1, k2, k3, k4⟩ := row2 hG
        have hTl := lt_of_block hG
        by_cases hlt : k < ss.length
        · obtain ⟨q, hq⟩ : ∃ q, qs[k]? = some q := ⟨_, List.getElem?_eq_getElem (by omega)⟩
          obtain ⟨hv1, hv2⟩ := hrow.out k q hq
          have hsq := hsm.out q (List.mem_of_getElem? hq)
          have hd : qs.drop k = q :: qs.drop (k + 1) := by
            obtain ⟨hkl, rfl⟩ := List.getElem?_eq_some_iff.1 hq
            exact List.drop_eq_getElem_cons hkl
          have hc1 := (hown.cellAt (k * 2) (by omega)).trans hv1
          have hc2 := (hown.cellAt (k * 2 + 1) (by omega)).trans hv2
          have JS := Lib.hid (fun W hW => sum_q t q hst.out.1 hsq W hW)
          have HS := hst.out.2
          rw [hd, sumS] at HS
          by_cases h0 : addC t q = 0
          · rw [h0, nT_ok, dT_ok] at JS
            rw [if_pos h0] at HS
            have HS := Lib.hid HS
            have hs2 := addC_sml h0
            have hn1 : w.heap.size ≠ TB := by omega
            have hn2 : TB ≠ w.heap.size := by omega
            clear hst hq hv1 hv2 hd hsq
            go_wp2_with (go_at_call 41; refine (JS.out _ ((HV.out.below (hbel2.alloc hbel2.size _)).t)).mono ?_; rintro e w2 ⟨rfl, b⟩; have G2 := Lib.hid ((b.block TB (by simp; omega)).trans ((alloc_old hTl).trans hG)); obtain ⟨m1, m2, m3, m4⟩ := row2 G2.out; have O2 := Lib.hid (own_below (hown.alloc (.cells #[.string (rep q.num), .string (rep (q.den : Int))] 60)) b); have B2 := Lib.hid (bt (hbel2.alloc hbel2.size (.cells #[.string (rep q.num), .string (rep (q.den : Int))] 60)) b); clear b)
            go_roundw
            case rel => exact ⟨k + 1, t + q, by omega, by go_num, ⟨hs2, HS.out⟩, own_heap O2.out (sc2_other hn2), sc2_row G2.out, bel_sc2 (by omega) B2.out⟩
            case measure => simp [intOf]; omega
          · rw [nT_err h0, dT_err h0] at JS
            rw [if_neg h0] at HS
            obtain ⟨q1, q2, q3⟩ := HQ.out
            rw [HS] at q1 q2
            simp only at q1
            have hR := q3 (by rw [q1]; exact h0)
            subst hR
            rw [← q1] at JS h0
            have hcz : (cc == 0) = false := by rw [beq_eq_false_iff_ne]; exact h0
            have hn2 : TB ≠ w.heap.size := by omega
            clear hst hq hv1 hv2 hd hsq q1 q2 q3 HS HQ h0
            go_wp2_with (go_at_call 41; refine (JS.out _ ((HV.out.below (hbel2.alloc hbel2.size _)).t)).mono ?_; rintro e w2 ⟨rfl, b⟩; have G2 := Lib.hid ((b.block TB (by simp; omega)).trans ((alloc_old hTl).trans hG)); obtain ⟨m1, m2, m3, m4⟩ := row2 G2.out; have B2 := Lib.hid (bt (hbel2.alloc hbel2.size (.cells #[.string (rep q.num), .string (rep (q.den : Int))] 60)) b); clear b)
            go_ret2
            exact ⟨rfl, bel_sc2 (by omega) B2.out⟩
        · have hk2 : k = ss.length := by omega
          obtain ⟨hs1, HS⟩ := hst.out
          rw [hk2, ← hn, List.drop_of_length_le (Nat.le_refl _), sumS] at HS
          obtain ⟨q1, q2, q3⟩ := HQ.out
          rw [HS] at q1 q2
          simp only at q1 q2
          subst q1
          have hR := q2 rfl
          subst hR
          have JT := Lib.hid (fun W => text_q t hs1 W)
          clear hst HQ q2 q3 HS hs1 HOO
          go_wp2_with (go_at_call 48; refine (JT.out _).mono ?_; rintro e w2 ⟨rfl, b⟩; have B2 := Lib.hid (bt hbel2 b); clear b)
          go_ret2
          exact ⟨rfl, B2.out⟩
set_option maxRecDepth 100000 in
set_option maxHeartbeats 1600000 in
theorem sum_many (A : Option Addr) (c n : Nat) (w : World) (hn : 1000 < n) :
    Calls Tryz.prog 20 #[.slice A n c] w (StE ⟨#[]⟩ 4 w) := by
  have h1 : decide (1000 < (n : Int)) = true := decide_eq_true (by omega)
  clear hn
  go_enter Tryz.func20, Tryz.ntmps20
  go_wp2
  go_ret2
  exact ⟨rfl, Below.refl _ _⟩
/-- The first of the texts that is wrong. -/
def fstBad : List ByteArray → Int
  | [] => 0
  | s :: r => if chkR s.data.toList = 0 then fstBad r else chkR s.data.toList
theorem fstBad_at : ∀ (ss : List ByteArray) (k : Nat) (h : k < ss.length), ¬ chkR ss[k].data.toList = 0 → (∀ j (hj : j < k), chkR ss[j].data.toList = 0) → fstBad ss = chkR ss[k].data.toList
  | s :: r, 0, _, hb, _ => by unfold fstBad; exact if_neg hb
  | s :: r, k + 1, h, hb, ha => by
    unfold fstBad
    refine (if_pos (ha 0 (by omega))).trans ?_
    exact fstBad_at r k (by simpa using h) hb (fun j hj => ha (j + 1) (by omega))
theorem fstBad_ok : ∀ (qs : List Rat), (∀ q ∈ qs, Sml q) → fstBad (qs.map rq) = 0
  | [], _ => rfl
  | q :: r, h => by
    rw [List.map_cons]
    unfold fstBad
    rw [if_pos (rq_chk (h q (by simp)))]
    exact fstBad_ok r (fun x hx => h x (by simp [hx]))
theorem qv_map (qs : List Rat) : (qs.map rq).map (fun s => qv s.data.toList) = qs := by
  rw [List.map_map]
  conv => rhs; rw [← List.map_id qs]
  exact List.map_congr_left fun q _ => qv_rq q
/-- Sum's error and text. -/
def sumC (ss : List ByteArray) : Int := if 1000 < ss.length then 4 else if fstBad ss = 0 then (sumS 0 (ss.map fun s => qv s.data.toList)).2 else fstBad ss
def sumT (ss : List ByteArray) : ByteArray := if sumC ss = 0 then rq (sumS 0 (ss.map fun s => qv s.data.toList)).1 else ⟨#[]⟩
theorem rsum_any (A : Option Addr) (c : Nat) (ss : List ByteArray) (w : World) (hA : SlA Value.string w A ss) (hz : 1000 < ss.length ∨ ∀ s ∈ ss, s.size ≤ 1048576) (hv : VarR w) :
    Calls Tryz.prog 20 #[.slice A ss.length c] w (StE (sumT ss) (sumC ss) w) := by
  by_cases hs : 1000 < ss.length
  · have e : sumC ss = 4 := by unfold sumC; rw [if_pos hs]
    unfold sumT
    rw [e, if_neg (by decide)]
    exact sum_many A c _ w hs
  · refine sum_walk2 A c ss w hA (by omega) (hz.resolve_left hs) hv _ _ ?_ ?_
    · intro k h hb ha
      have e := fstBad_at ss k h hb ha
      have e2 : sumC ss = chkR ss[k].data.toList := by unfold sumC; rw [if_neg hs, e, if_neg hb]
      exact ⟨by unfold sumT; rw [e2, if_neg hb], e2⟩
    · intro qs hq hsm
      have e : sumC ss = (sumS 0 qs).2 := by unfold sumC; rw [if_neg hs, hq, fstBad_ok qs hsm, if_pos rfl, qv_map]
      refine ⟨e, fun h => ?_, fun h => by unfold sumT; rw [if_neg h]⟩
      unfold sumT
      rw [if_pos h, hq, qv_map]
end Go.Proofs.YtgjhgkglfflmjaaGreatDoor

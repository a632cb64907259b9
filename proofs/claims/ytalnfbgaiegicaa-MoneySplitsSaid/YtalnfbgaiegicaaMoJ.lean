/- Layer 7: the program's walks: opposites, Split, Sum. -/
import Derived.Test.YtalnfbgaiegicaaMoI
namespace Go.Proofs.Ytalnfbgaiegicaa
open Go Go.RowKit

/-- The first k signs changed. -/
def oppM (L : List Int) (k : Nat) : List Int := (List.range L.length).map fun j => if j < k then -(L.getD j 0) else L.getD j 0
theorem oppM_len (L : List Int) (k : Nat) : (oppM L k).length = L.length := by unfold oppM; simp
theorem oppM_get (L : List Int) {k j : Nat} (h : j < L.length) : (oppM L k).getD j 0 = if j < k then -(L.getD j 0) else L.getD j 0 := by
  unfold oppM; rw [List.getD_eq_getElem?_getD, List.getElem?_map, List.getElem?_range h]; rfl
theorem oppM_zero (L : List Int) : oppM L 0 = L := ext_toM (oppM_len L 0) fun j h => by
  rw [oppM_len] at h
  rw [oppM_get L h, if_neg (by omega)]
theorem oppM_set (L : List Int) {k : Nat} (hk : k < L.length) : (oppM L k).set k (-(L.getD k 0)) = oppM L (k + 1) := by
  refine ext_toM (by rw [List.length_set, oppM_len, oppM_len]) fun j h => ?_
  rw [List.length_set, oppM_len] at h
  rw [oppM_get L h, List.getD_eq_getElem?_getD, List.getElem?_set]
  by_cases e : k = j
  · subst e; rw [if_pos rfl, if_pos (by rw [oppM_len]; exact hk), if_pos (by omega)]; rfl
  · rw [if_neg e, ← List.getD_eq_getElem?_getD, oppM_get L h]
    by_cases g : j < k
    · rw [if_pos g, if_pos (by omega)]
    · rw [if_neg g, if_neg (by omega)]
set_option maxRecDepth 100000 in
set_option maxHeartbeats 1600000 in
theorem opp_any (base b n : Nat) (L : List Int) (hL : L.length = n) (hn : n ≤ 100) (hb : ∀ j, j < n → -1125899906842624 ≤ L.getD j 0 ∧ L.getD j 0 ≤ 1125899906842624) (w : World) (_hB : base ≤ w.heap.size) (ho : w.ownsRow base 3 1 (.slice (some ⟨b, 0, none⟩) n n) n (L.map encM)) :
    Calls Try.prog 10 #[.slice (some ⟨b, 0, none⟩) n n] w fun e w' => e = .returned (.slice (some ⟨b, 0, none⟩) n n) ∧ w'.ownsRow base 3 1 (.slice (some ⟨b, 0, none⟩) n n) n ((oppM L n).map encM) ∧ Below base w w' := by
  have HL := Lib.hid hL
  have HB := Lib.hid hb
  have HO := Lib.hid ho
  clear hL hb ho
  go_enter Try.func10, Try.ntmps10
  go_wp2
  go_loopw [6] (fun i wr => ∃ k : Nat, k ≤ n ∧ i = .int .i64 k ∧ Hid (wr.ownsRow base 3 1 (.slice (some ⟨b, 0, none⟩) n n) n ((oppM L k).map encM) ∧ Below base w wr)) (fun i _ => n - (intOf i).toNat)
  case atStart => exact ⟨0, by omega, rfl, by rw [oppM_zero]; exact HO.out, Below.refl _ _⟩
  case round =>
    obtain ⟨k, hk, rfl, H1⟩ := hrel
    by_cases hlt : k < n
    · have hk1 : (k : Int) < (n : Int) := by omega
      have d1 := own_cellM H1.out.1 k (by rw [oppM_len, HL.out]; exact hlt)
      have f1 := H1.out.1.frozenAt k
      rw [oppM_get L (by rw [HL.out]; exact hlt), if_neg (by omega)] at d1
      obtain ⟨v0, v1⟩ := HB.out k hlt
      have H2 : Hid ((wr.setCell ⟨b, k, none⟩ (.int .i64 (-(L.getD k 0)))).ownsRow base 3 1 (.slice (some ⟨b, 0, none⟩) n n) n ((oppM L (k + 1)).map encM) ∧ Below base w (wr.setCell ⟨b, k, none⟩ (.int .i64 (-(L.getD k 0))))) := by
        refine ⟨?_, H1.out.2.setCell (p := ⟨b, k, none⟩) (own_ltM H1.out.1).1 _⟩
        have := own_setM H1.out.1 k (-(L.getD k 0))
        rwa [oppM_set L (by rw [HL.out]; exact hlt)] at this
      generalize L.getD k 0 = v at *
      clear H1 HB HL HO
      go_wp2
      go_round
      case rel => exact ⟨k + 1, by omega, by go_num, H2⟩
      case measure => simp [intOf]; omega
    · obtain rfl : k = n := by omega
      go_wp2
      go_ret
      exact ⟨rfl, H1.out⟩
/-- What Split answers. -/
def SplR (t : Int) (ws : List Int) (w : World) (e : Ending) (w' : World) : Prop :=
  (spE t ws = 2 ∧ e = .returned (.tuple #[.slice none 0 0, .int .i64 2]) ∧ Below w.heap.size w w') ∨
  (spE t ws = 0 ∧ ∃ (b : Nat) (C : Nat → Bool), e = .returned (.tuple #[.slice (some ⟨b, 0, none⟩) ws.length ws.length, .int .i64 0]) ∧ w'.ownsRow w.heap.size 3 1 (.slice (some ⟨b, 0, none⟩) ws.length ws.length) ws.length ((spL t ws C).map encM) ∧ Below w.heap.size w w' ∧ Chs (sizI t) (wgS ws) (wgt ws) ws.length C)
theorem spE_bad (t : Int) (ws : List Int) (h : amB t = false ∨ 100 < ws.length) : spE t ws = 2 := by
  unfold spE
  rw [if_neg]
  intro g
  rw [Bool.and_eq_true, Bool.and_eq_true, Bool.and_eq_true, Bool.and_eq_true, decide_eq_true_eq, decide_eq_true_eq] at g
  rcases h with h | h
  · rw [h] at g; exact absurd g.1.1.1.1 (by decide)
  · omega
theorem spE_wgt (t : Int) (ws : List Int) {k : Nat} (hk : k < ws.length) (h : wgB (wgt ws k) = false) : spE t ws = 2 := by
  unfold spE
  rw [if_neg]
  intro g
  rw [Bool.and_eq_true, Bool.and_eq_true, Bool.and_eq_true, Bool.and_eq_true] at g
  have := List.all_eq_true.1 g.1.2 (ws.getD k 0) (by rw [List.getD_eq_getElem?_getD, List.getElem?_eq_getElem hk]; exact List.getElem_mem hk)
  unfold wgt at h
  rw [h] at this; cases this
theorem spE_zero (t : Int) (ws : List Int) (h : wgS ws = 0) : spE t ws = 2 := by
  unfold spE
  rw [if_neg]
  intro g
  rw [Bool.and_eq_true, decide_eq_true_eq] at g
  exact g.2 h
theorem spE_good (t : Int) (ws : List Int) (h1 : amB t = true) (h2 : ws.length ≤ 100) (h3 : ∀ k, k < ws.length → wgB (wgt ws k) = true) (h4 : wgS ws ≠ 0) : spE t ws = 0 := by
  have hn : 1 ≤ ws.length := by
    rcases Nat.eq_zero_or_pos ws.length with g | g
    · exfalso; apply h4; unfold wgS; rw [g]; rfl
    · exact g
  have ha : ws.all wgB = true := by
    rw [List.all_eq_true]
    intro x hx
    obtain ⟨k, hk, rfl⟩ := List.getElem_of_mem hx
    have := h3 k hk
    unfold wgt at this
    rwa [List.getD_eq_getElem?_getD, List.getElem?_eq_getElem hk] at this
  unfold spE
  rw [if_pos]
  rw [h1, ha, decide_eq_true hn, decide_eq_true h2, decide_eq_true h4]
  rfl
set_option maxRecDepth 100000 in
set_option maxHeartbeats 1600000 in
theorem psplit_bad (t : Int) (A : Option Addr) (c : Nat) (n : Nat) (w : World) (h : amB t = false ∨ amB t = true ∧ 100 < n) :
    Calls Try.prog 4 #[.int .i64 t, .slice A n c] w fun e w' => e = .returned (.tuple #[.slice none 0 0, .int .i64 2]) ∧ w = w' := by
  have HQ := Lib.hid (fun b h => pamount_any t b h)
  rcases h with h | ⟨h, h1⟩
  · have HC := Lib.hid (HQ.out false h)
    clear h HQ
    go_enter Try.func4, Try.ntmps4
    go_wp2_with (go_at_call 9; ((with_reducible refine (HC.out _).mono ?_); rintro x w1 ⟨rfl, rfl⟩))
    go_ret2
    exact ⟨rfl, rfl⟩
  · have HC := Lib.hid (HQ.out true h)
    have g2 : 100 < (n : Int) := by omega
    clear h HQ h1
    go_enter Try.func4, Try.ntmps4
    go_wp2_with (go_at_call 9; ((with_reducible refine (HC.out _).mono ?_); rintro x w1 ⟨rfl, rfl⟩))
    go_ret2
    exact ⟨rfl, rfl⟩
set_option maxRecDepth 100000 in
set_option maxHeartbeats 3200000 in
theorem psplit_go (t : Int) (A : Option Addr) (c : Nat) (ws : List Int) (n : Nat) (hn : ws.length = n) (n1 : n ≤ 100) (F : Nat → Int) (hF : wgt ws = F) (w : World) (hA : HsA w A ws) (h : amB t = true) :
    Calls Try.prog 4 #[.int .i64 t, .slice A n c] w (SplR t ws w) := by
  have HC := Lib.hid (pamount_any t true h)
  have g1 : (n : Int) ≤ 100 := by omega
  obtain ⟨t0, t1⟩ := (amB_iff t).1 h
  have HA := Lib.hid hA
  have HL := Lib.hid hn
  have HF : Hid (∀ i, ws.getD i 0 = F i) := fun i => by rw [← hF]; rfl
  have HFF := Lib.hid hF
  have HS : Hid (∀ k, smF F (k + 1) = smF F k + F k) := fun k => rfl
  have HZ : Hid (smF F 0 = 0) := rfl
  have H2 : Hid (∀ w', Below w.heap.size w w' → ((∃ k, k < n ∧ wgB (F k) = false) ∨ smF F n = 0) → SplR t ws w (.returned (.tuple #[.slice none 0 0, .int .i64 2])) w') := fun w' hb hx => by
    refine .inl ⟨?_, rfl, hb⟩
    rcases hx with ⟨k, hk, hw⟩ | hx
    · exact spE_wgt t ws (by rw [hn]; exact hk) (by rw [hF]; exact hw)
    · exact spE_zero t ws (by unfold wgS; rw [hF, hn]; exact hx)
  have H0 : Hid (∀ (b : Nat) (L : List Int) (w' : World), (∀ k, k < n → wgB (F k) = true) → smF F n ≠ 0 → (∃ C, Chs (sizI t) (smF F n) F n C ∧ L = (List.range n).map (shP t (smF F n) F C)) → w'.ownsRow w.heap.size 3 1 (.slice (some ⟨b, 0, none⟩) n n) n (L.map encM) → Below w.heap.size w w' → SplR t ws w (.returned (.tuple #[.slice (some ⟨b, 0, none⟩) n n, .int .i64 0])) w') := fun b L w' h3 h4 ⟨C, h5, h6⟩ h7 h8 => by
    have e1 : wgS ws = smF F n := by unfold wgS; rw [hF, hn]
    refine .inr ⟨spE_good t ws h (by omega) (by rw [hF, hn]; exact h3) (by rw [e1]; exact h4), b, C, by rw [hn], ?_, h8, by rw [e1, hF, hn]; exact h5⟩
    unfold spL
    rw [e1, hF, hn, ← h6]
    exact h7
  have HSH : Hid (∀ (T : Int) (W : World), Below w.heap.size w W → 0 ≤ T → T ≤ 1125899906842624 → 1 ≤ n → 0 < smF F n → (∀ k, k < n → 0 ≤ F k ∧ F k ≤ 4000) →
      Calls Try.prog 11 #[.int .i64 T, .slice A n c, .int .i64 (smF F n)] W fun e w' => ∃ (b : Nat) (L : List Int), e = .returned (.slice (some ⟨b, 0, none⟩) n n) ∧ w'.ownsRow W.heap.size 3 1 (.slice (some ⟨b, 0, none⟩) n n) n (L.map encM) ∧ Below W.heap.size W w' ∧ ∃ C, Chs T (smF F n) F n C ∧ L = (List.range n).map (ptP T (smF F n) F C)) :=
    fun T W hb hT0 hT1 hn1 hW hw => shares_any T (smF F n) A c ws n hn hn1 n1 F (fun i => by rw [← hF]; rfl) W (hA.below hb) hT0 hT1 hW hw rfl
  clear hA hn hF h
  go_enter Try.func4, Try.ntmps4
  go_wp2_with (go_at_call 9; ((with_reducible refine (HC.out _).mono ?_); rintro x w1 ⟨rfl, rfl⟩))
  go_loop [6, 19] (fun s i => ∃ (k : Nat) (S : Int), k ≤ n ∧ i = .int .i64 k ∧ s = .int .i64 S ∧ Hid (S = smF F k) ∧ (0 ≤ S ∧ S ≤ 4000 * (k : Int)) ∧ Hid (∀ j, j < k → wgB (F j) = true)) (fun _ i => n - (intOf i).toNat)
  case atStart => exact ⟨0, _, by omega, rfl, rfl, HZ.out.symm, by simp, fun j h => by omega⟩
  case round =>
    obtain ⟨k, S, hk, rfl, rfl, HSS, ⟨s0, s1⟩, HI⟩ := hrel
    by_cases hlt : k < n
    · obtain ⟨b, o, rfl, -, hcell⟩ := HA.out.get (show k < ws.length by rw [HL.out]; exact hlt)
      have d0 := hcell k (by rw [HL.out]; exact hlt)
      rw [HF.out] at d0
      have hk1 : (k : Int) < (n : Int) := by omega
      cases hw : wgB (F k)
      · have hx : F k < 0 ∨ 0 ≤ F k ∧ 4000 < F k := by
          unfold wgB at hw
          by_cases g : 0 ≤ F k
          · rw [decide_eq_true g, Bool.true_and, decide_eq_false_iff_not] at hw; omega
          · omega
        have HR := H2.out w (Below.refl _ _) (.inl ⟨k, hlt, hw⟩)
        have HR := Lib.hid HR
        clear hcell HI HS HSS HF HFF hw H2 H0 HSH
        generalize F k = x at *
        rcases hx with hx | ⟨hx, hx2⟩
        · go_wp2
          go_ret2
          exact HR.out
        · go_wp2
          go_ret2
          exact HR.out
      · have hx : 0 ≤ F k ∧ F k ≤ 4000 := by
          unfold wgB at hw
          rw [Bool.and_eq_true, decide_eq_true_eq, decide_eq_true_eq] at hw
          exact hw
        have HI2 : Hid (∀ j, j < k + 1 → wgB (F j) = true) := fun j hj => by
          rcases Nat.lt_or_ge j k with q | q
          · exact HI.out j q
          · obtain rfl : j = k := by omega
            exact hw
        have HS1 : Hid (S + F k = smF F (k + 1)) := by show _ = _; rw [HS.out, HSS.out]
        obtain ⟨hx0, hx1⟩ := hx
        clear hcell HI HS HSS HF HFF hw H2 H0 HSH
        generalize F k = x at *
        go_wp2
        go_round
        case rel => exact ⟨k + 1, _, by omega, by go_num, rfl, HS1, ⟨by omega, by omega⟩, HI2⟩
        case measure => simp [intOf]; omega
    · obtain rfl : k = n := by omega
      by_cases hz : S = 0
      · have HR := Lib.hid (H2.out w (Below.refl _ _) (.inr (by rw [← HSS.out]; exact hz)))
        subst hz
        clear HI HS HSS HF HFF HZ H2 H0 HSH
        go_wp2
        go_ret2
        exact HR.out
      · have hz1 : (S == 0) = false := by rw [beq_eq_false_iff_ne]; exact hz
        have hk0 : 1 ≤ k := by
          rcases Nat.eq_zero_or_pos k with g | g
          · exfalso; apply hz; rw [HSS.out, g]; exact HZ.out
          · exact g
        have HW : Hid (∀ j, j < k → 0 ≤ F j ∧ F j ≤ 4000) := fun j hj => by
          have := HI.out j hj
          unfold wgB at this
          rw [Bool.and_eq_true, decide_eq_true_eq, decide_eq_true_eq] at this
          exact this
        by_cases ht : t < 0
        · have HQ := Lib.hid (HSH.out (-t) w (Below.refl _ _) (by omega) (by omega) hk0 (by rw [← HSS.out]; omega) HW.out)
          rw [← HSS.out] at HQ
          have HR : Hid (∀ (b : Nat) (L : List Int) (W w' : World), w'.ownsRow w.heap.size 3 1 (.slice (some ⟨b, 0, none⟩) k k) k ((oppM L k).map encM) → Below w.heap.size w w' → (∃ C, Chs (-t) S F k C ∧ L = (List.range k).map (ptP (-t) S F C)) → SplR t ws w (.returned (.tuple #[.slice (some ⟨b, 0, none⟩) k k, .int .i64 0])) w') := fun b L W w' h1 h2 ⟨C, h3, h4⟩ => by
            have es : sizI t = -t := by unfold sizI; rw [if_pos ht]
            refine H0.out b _ w' HI.out (by rw [← HSS.out]; exact hz) ⟨C, by rw [es, ← HSS.out]; exact h3, ?_⟩ h1 h2
            rw [← HSS.out]
            refine ext_toM (by rw [oppM_len, h4]; simp) fun j hj => ?_
            rw [oppM_len] at hj
            have hj2 : j < k := by rw [h4] at hj; simpa using hj
            rw [oppM_get L hj, if_pos hj2, h4]
            rw [List.getD_eq_getElem?_getD, List.getD_eq_getElem?_getD, List.getElem?_map, List.getElem?_map, List.getElem?_range hj2]
            show -(ptP (-t) S F C j) = shP t S F C j
            unfold shP sgP
            rw [if_pos ht, es]
          have HB : Hid (∀ (L : List Int), (∃ C, Chs (-t) S F k C ∧ L = (List.range k).map (ptP (-t) S F C)) → L.length = k ∧ ∀ j, j < k → -1125899906842624 ≤ L.getD j 0 ∧ L.getD j 0 ≤ 1125899906842624) := fun L ⟨C, h3, h4⟩ => by
            refine ⟨by rw [h4]; simp, fun j hj => ?_⟩
            rw [h4, List.getD_eq_getElem?_getD, List.getElem?_map, List.getElem?_range hj]
            show -1125899906842624 ≤ ptP (-t) S F C j ∧ ptP (-t) S F C j ≤ 1125899906842624
            have a1 := pt_nonneg (C := C) (size := -t) (W := S) (w := F) (n := k) (by omega) (by omega) (fun i hi => (HW.out i hi).1) hj
            have a2 := pt_le (size := -t) (W := S) (w := F) (n := k) (by omega) (by omega) (fun i hi => (HW.out i hi).1) h3 hj
            omega
          clear HI HS HSS HF HFF HZ H2 H0 HSH HA HL HC HW
          go_wp2_with (go_at_call 11; ((with_reducible refine HQ.out.mono ?_); rintro e w2 ⟨b, L, rfl, ho, hbel, hL⟩))
          obtain ⟨l1, l2⟩ := HB.out L hL
          have HP := Lib.hid (opp_any w.heap.size b k L l1 n1 l2 w2 hbel.size ho)
          have HL := Lib.hid hL
          have HBel := Lib.hid hbel
          clear l1 l2 HB ho hbel hL HQ
          go_wp2_with (go_at_call 10; ((with_reducible refine HP.out.mono ?_); rintro e w3 ⟨rfl, ho3, hb3⟩))
          have HF := Lib.hid (HR.out b L w2 w3 ho3 (HBel.out.trans hb3) HL.out)
          clear HR HP ho3 hb3 HL HBel
          go_ret2
          exact HF.out
        · have HQ := Lib.hid (HSH.out t w (Below.refl _ _) (by omega) (by omega) hk0 (by rw [← HSS.out]; omega) HW.out)
          rw [← HSS.out] at HQ
          have HR : Hid (∀ (b : Nat) (L : List Int) (w' : World), w'.ownsRow w.heap.size 3 1 (.slice (some ⟨b, 0, none⟩) k k) k (L.map encM) → Below w.heap.size w w' → (∃ C, Chs t S F k C ∧ L = (List.range k).map (ptP t S F C)) → SplR t ws w (.returned (.tuple #[.slice (some ⟨b, 0, none⟩) k k, .int .i64 0])) w') := fun b L w' h1 h2 ⟨C, h3, h4⟩ => by
            have es : sizI t = t := by unfold sizI; rw [if_neg ht]
            refine H0.out b _ w' HI.out (by rw [← HSS.out]; exact hz) ⟨C, by rw [es, ← HSS.out]; exact h3, ?_⟩ h1 h2
            rw [← HSS.out, h4]
            refine List.map_congr_left fun j hj => ?_
            unfold shP sgP
            rw [if_neg ht, es]
          clear HI HS HSS HF HFF HZ H2 H0 HSH HA HL HC HW
          go_wp2_with (go_at_call 11; ((with_reducible refine HQ.out.mono ?_); rintro e w2 ⟨b, L, rfl, ho, hbel, hL⟩))
          have HF := Lib.hid (HR.out b L w2 ho hbel hL)
          clear HR HQ ho hbel hL
          go_ret2
          exact HF.out
theorem psplit_any (t : Int) (A : Option Addr) (c : Nat) (ws : List Int) (w : World) (hA : HsA w A ws) :
    Calls Try.prog 4 #[.int .i64 t, .slice A ws.length c] w (SplR t ws w) := by
  cases ht : amB t
  · exact (psplit_bad t A c ws.length w (.inl ht)).mono fun e w' ⟨h1, h2⟩ => .inl ⟨spE_bad t ws (.inl ht), h1, h2 ▸ Below.refl _ _⟩
  · rcases Nat.lt_or_ge 100 ws.length with g | g
    · exact (psplit_bad t A c ws.length w (.inr ⟨ht, g⟩)).mono fun e w' ⟨h1, h2⟩ => .inl ⟨spE_bad t ws (.inr g), h1, h2 ▸ Below.refl _ _⟩
    · exact psplit_go t A c ws ws.length rfl g (wgt ws) rfl w hA ht
end Go.Proofs.Ytalnfbgaiegicaa

/- Layer 7: the reference's Split: its main way. -/
import Derived.Test.YtalnfbgaiegicaaMpW
namespace Go.Proofs.Ytalnfbgaiegicaa
open Go Go.RowKit

def lsB (f : Nat → Int) (k : Nat) : List Int := (List.range k).map f
theorem lsB_len (f : Nat → Int) (k : Nat) : (lsB f k).length = k := by unfold lsB; simp
theorem lsB_get (f : Nat → Int) {k j : Nat} (h : j < k) : (lsB f k).getD j 0 = f j := by
  unfold lsB; rw [List.getD_eq_getElem?_getD, List.getElem?_map, List.getElem?_range h]; rfl
theorem lsB_succ (f : Nat → Int) (k : Nat) : lsB f k ++ [f k] = lsB f (k + 1) := by unfold lsB; rw [List.range_succ, List.map_append]; rfl
theorem lsB_ext {f g : Nat → Int} {k : Nat} (h : ∀ j, j < k → f j = g j) : lsB f k = lsB g k := by
  unfold lsB; exact List.map_congr_left fun j hj => h j (List.mem_range.1 hj)
theorem lsB_set (f g : Nat → Int) {k b : Nat} (hb : b < k) (h : ∀ j, j < k → j ≠ b → f j = g j) : (lsB f k).set b (g b) = lsB g k := by
  refine ext_toM (by rw [List.length_set, lsB_len, lsB_len]) fun j hj => ?_
  rw [List.length_set, lsB_len] at hj
  rw [lsB_get _ hj, List.getD_eq_getElem?_getD, List.getElem?_set]
  by_cases e : b = j
  · subst e
    rw [if_pos rfl, if_pos (by rw [lsB_len]; exact hb)]; rfl
  · rw [if_neg e, ← List.getD_eq_getElem?_getD, lsB_get _ hj]
    exact h j hj (fun g => e g.symm)
theorem cnF_none : ∀ n, cnF (fun _ => false) n = 0
  | 0 => rfl
  | n + 1 => by show cnF _ n + _ = 0; rw [cnF_none n]; rfl
theorem hsA_ownX {w : World} {base b n cap : Nat} {xs : List Int} (h : w.ownsRow base 3 1 (.slice (some ⟨b, 0, none⟩) n cap) n (xs.map encM)) : HsA w (some ⟨b, 0, none⟩) xs := by
  have hl : xs.length = n := by have := h.1; simpa using this
  refine .inr ⟨b, 0, rfl, (own_ltM h).2, fun j hj => ?_⟩
  rw [Nat.zero_add]
  exact own_cellM h j hj
def RSpR (t : Int) (ws : List Int) (w : World) (e : Ending) (w' : World) : Prop := ∃ (b cap : Nat) (C : Nat → Bool), e = .returned (.tuple #[.slice (some ⟨b, 0, none⟩) ws.length cap, .int .i64 0]) ∧ HsA w' (some ⟨b, 0, none⟩) (spL t ws C) ∧ Chs (sizI t) (wgS ws) (wgt ws) ws.length C ∧ Below w.heap.size w w'
theorem TwoR.get {w : World} {u : Value} {g cap n k : Nat} {f : Nat → Int} {ys : List Int} {wr : World} (h : TwoR w (.slice (some ⟨g, 0, none⟩) n cap) u n k (lsB f n) ys wr) {j : Nat} (hj : j < n) : wr.cell? ⟨g, j, none⟩ = some (.int .i64 (f j)) := by
  have := own_cellM h.l j (by rw [lsB_len]; exact hj)
  rwa [lsB_get _ hj] at this
section
set_option maxRecDepth 1000000
set_option maxHeartbeats 16000000
theorem rsplit_pos (t : Int) (A : Option Addr) (c : Nat) (ws : List Int) (n : Nat) (hn : ws.length = n) (n0 : 1 ≤ n) (n1 : n ≤ 100) (F : Nat → Int) (hF : wgt ws = F) (w : World) (hA : HsA w A ws) (h : amB t = true) (hw : ∀ k, k < n → wgB (F k) = true) (hz : smF F n ≠ 0) (T W : Int) (hT : sizI t = T) (hWW : smF F n = W) (ht : 0 ≤ t) :
    Calls Try.prog 5 #[.int .i64 t, .slice A n c] w (RSpR t ws w) := by
  have hT2 : t = T := by rw [← hT]; unfold sizI; rw [if_neg (by omega)]
  obtain rfl : T = t := hT2.symm
  have HC := Lib.hid (ramount_any T true h)
  obtain ⟨t0, t1⟩ := (amB_iff T).1 h
  have hwb : ∀ k, k < n → 0 ≤ F k ∧ F k ≤ 4000 := fun k hk => by
    have := hw k hk
    unfold wgB at this
    rw [Bool.and_eq_true, decide_eq_true_eq, decide_eq_true_eq] at this
    exact this
  have hsb : ∀ k, k ≤ n → 0 ≤ smF F k ∧ smF F k ≤ 4000 * (k : Int) := by
    intro k
    induction k with
    | zero => intro _; show 0 ≤ (0 : Int) ∧ (0 : Int) ≤ 4000 * 0; omega
    | succ k ih =>
      intro hk
      have h1 := ih (by omega)
      have h2 := hwb k (by omega)
      show 0 ≤ smF F k + F k ∧ smF F k + F k ≤ 4000 * ((k + 1 : Nat) : Int)
      omega
  have hW0 : 0 < W := by have := hsb n (Nat.le_refl _); omega
  have hW1 : W ≤ 400000 := by have := hsb n (Nat.le_refl _); omega
  have hT0 : 0 ≤ T := by omega
  have hT1 : T ≤ 1125899906842624 := by omega
  have g0 : 1 ≤ (n : Int) := by omega
  have g1 : (n : Int) ≤ 100 := by omega
  have HA := Lib.hid hA
  have HL := Lib.hid hn
  have HF : Hid (∀ i, ws.getD i 0 = F i) := fun i => by rw [← hF]; rfl
  have HS : Hid (∀ k, smF F (k + 1) = smF F k + F k) := fun k => rfl
  have HZ : Hid (smF F 0 = 0) := rfl
  have HWB := Lib.hid hwb
  have HSB := Lib.hid hsb
  have HSM := Lib.hid hWW
  have hle : ∀ k, k < n → 0 ≤ loP T W F k ∧ loP T W F k ≤ T := fun i hi => by
    have h1 := smF_mem (f := F) (n := n) (fun i hi => (hwb i hi).1) hi
    rw [hWW] at h1
    exact ⟨Int.ediv_nonneg (Int.mul_nonneg hT0 (hwb i hi).1) (by omega), Int.ediv_le_of_le_mul hW0 (Int.mul_le_mul_of_nonneg_left h1 hT0)⟩
  have HLE := Lib.hid hle
  have HEND : Hid (∀ (b cap : Nat) (C : Nat → Bool) (w' : World), Chs T W F n C → HsA w' (some ⟨b, 0, none⟩) (lsB (ptP T W F C) n) → Below w.heap.size w w' → RSpR T ws w (.returned (.tuple #[.slice (some ⟨b, 0, none⟩) n cap, .int .i64 0])) w') := fun b cap C w' k1 k2 k3 => by
    have e1 : wgS ws = W := by unfold wgS; rw [hF, hn]; exact hWW
    refine ⟨b, cap, C, by rw [hn], ?_, by rw [hT, e1, hF, hn]; exact k1, k3⟩
    unfold spL
    rw [e1, hF, hn]
    have e2 : lsB (ptP T W F C) n = (List.range n).map (shP T W F C) := List.map_congr_left fun j _ => by
      unfold shP sgP
      rw [if_neg (by omega), hT]
    rw [← e2]; exact k2
  obtain ⟨i0, hi, hz0, hz1, hz2⟩ : ∃ i0, Try.prog.info? 3 = some i0 ∧ i0.zero = some (.int .i64 0) ∧ i0.size = 1 ∧ i0.bytes = 8 := by
    have := infoM
    cases h : Try.prog.info? 3 with
    | none => rw [h] at this; cases this
    | some i0 =>
      rw [h] at this
      simp only [Option.map_some, Option.some.injEq, Prod.mk.injEq] at this
      exact ⟨i0, rfl, this.1, this.2.1, this.2.2⟩
  clear h hA hn hF hw hwb hsb hz hle hT
  go_enter Try.func5, Try.ntmps5
  go_wp2_with (go_at_call 12; ((with_reducible refine (HC.out _).mono ?_); rintro x w1 ⟨rfl, rfl⟩))
  go_loop [6, 7] (fun s i => ∃ (k : Nat) (S : Int), k ≤ n ∧ i = .int .i64 k ∧ s = .int .i64 S ∧ Hid (S = smF F k) ∧ (0 ≤ S ∧ S ≤ 4000 * (k : Int))) (fun _ i => n - (intOf i).toNat)
  case atStart => exact ⟨0, _, by omega, rfl, rfl, HZ.out.symm, by simp⟩
  case round =>
    obtain ⟨k, S, hk, rfl, rfl, HSS, ⟨s0, s1⟩⟩ := hrel
    by_cases hlt : k < n
    · obtain ⟨b, o, rfl, -, hcell⟩ := HA.out.get (show k < ws.length by rw [HL.out]; exact hlt)
      have d0 := hcell k (by rw [HL.out]; exact hlt)
      rw [HF.out] at d0
      have hk1 : (k : Int) < (n : Int) := by omega
      obtain ⟨hx0, hx1⟩ := HWB.out k hlt
      have HS1 : Hid (S + F k = smF F (k + 1)) := by show _ = _; rw [HS.out, HSS.out]
      clear hcell HS HSS HF HWB HSB HSM HLE HEND HA HZ
      generalize F k = x at *
      go_wp2
      go_round
      case rel => exact ⟨k + 1, _, by omega, by go_num, rfl, HS1, ⟨by omega, by omega⟩⟩
      case measure => simp [intOf]; omega
    · obtain rfl : k = n := by omega
      obtain rfl : S = W := by rw [HSS.out]; exact HSM.out
      have hS1 : (S == 0) = false := by rw [beq_eq_false_iff_ne]; omega
      have HWS := HSS
      clear HSS HZ HS HSB hlt
      go_wp2
      go_loopw [9, 10, 11, 12] (fun u v l i wr => ∃ (j : Nat) (L : Int), j ≤ k ∧ i = .int .i64 j ∧ l = .int .i64 L ∧ (-(1125899906842624 * (j : Int)) ≤ L ∧ L ≤ T) ∧ Hid (L = T - smF (loP T S F) j) ∧ Hid (TwoR w u v j j (lsB (loP T S F) j) (lsB (reP T S F) j) wr)) (fun _ _ _ i _ => k - (intOf i).toNat)
      case atStart => exact ⟨0, T, by omega, rfl, by rfl, ⟨by omega, by omega⟩, by show T = T - 0; omega, TwoR.nil w⟩
      case round =>
        obtain ⟨j, L, hj, rfl, rfl, ⟨l0, l1⟩, HLL, S1⟩ := hrel
        by_cases hlt : j < k
        · obtain ⟨b, o, rfl, -, hcell⟩ := HA.out.get (show j < ws.length by rw [HL.out]; exact hlt)
          have hc0 := hcell j (by rw [HL.out]; exact hlt)
          rw [HF.out] at hc0
          have HC0 := Lib.hid hc0
          have d0 := (S1.out.bel.cell (p := ⟨b, o + j, none⟩) (World.block_lt_of_cell? w _ hc0)).trans hc0
          have hk1 : (j : Int) < (k : Int) := by omega
          obtain ⟨hx0, hx1⟩ := HWB.out j hlt
          obtain ⟨hp0, hp1⟩ := prod_fit hT0 hT1 hx0 hx1
          obtain ⟨q0, q1⟩ := HLE.out j hlt
          obtain ⟨r0, r1⟩ := re_bd (size := T) (w := F) hW0 j
          have hlo1 : T * F j / S = loP T S F j := rfl
          have hlo2 : T * F j % S = reP T S F j := rfl
          have HL2 : Hid (L - loP T S F j = T - smF (loP T S F) (j + 1)) := by
            show _ = _
            rw [HLL.out]
            show T - smF (loP T S F) j - loP T S F j = T - (smF (loP T S F) j + loP T S F j)
            omega
          have HE1 : Hid (lsB (loP T S F) j ++ [loP T S F j] = lsB (loP T S F) (j + 1)) := lsB_succ _ _
          have HE2 : Hid (lsB (reP T S F) j ++ [reP T S F j] = lsB (reP T S F) (j + 1)) := lsB_succ _ _
          have HG : Hid (∀ (u : Value) (g cap : Nat) (ys : List Int) (wr : World), TwoR w (.slice (some ⟨g, 0, none⟩) (j + 1) cap) u (j + 1) (j + 1) (lsB (loP T S F) (j + 1)) ys wr → wr.cell? ⟨g, j, none⟩ = some (.int .i64 (loP T S F j))) := fun u g cap ys wr h => h.get (by omega)
          generalize F j = x at *
          obtain ⟨p, hp⟩ : ∃ p, T * x = p := ⟨_, rfl⟩
          rw [hp] at hp0 hp1 hlo1 hlo2
          generalize loP T S F j = q at *
          generalize reP T S F j = r at *
          have hwp : IntKind.i64.wrap (T * x) = p := by rw [hp, IntKind.wrap_i64]; omega
          have hq : p.tdiv S = q := by rw [Int.tdiv_eq_ediv_of_nonneg hp0]; exact hlo1
          have hr : p.tmod S = r := by rw [Int.tmod_eq_emod_of_nonneg hp0]; exact hlo2
          clear HF HSM HLE HEND HA HWB HLL HWS hcell hlo1 hlo2 hc0
          go_wp2_with (first
            | (at_builtin; refine wpList_app2 S1.out q rfl _ _ 22 rfl i0 (.int .i64 0) Try.underlying22 hi hz0 hz1 hz2 rfl rfl rfl (by omega) ?_; intro v1 w2 h2; rw [HE1.out] at h2; obtain ⟨g1, cap1, rfl, -, -, -, -⟩ := h2.form (by omega); have S2 := Lib.hid h2; have d2 := (h2.bel.cell (p := ⟨b, o + j, none⟩) (World.block_lt_of_cell? w _ HC0.out)).trans HC0.out; clear h2)
            | (at_builtin; refine wpList_app2 S2.out.swap r rfl _ _ 22 rfl i0 (.int .i64 0) Try.underlying22 hi hz0 hz1 hz2 rfl rfl rfl (by omega) ?_; intro v2 w3 h3; rw [HE2.out] at h3; have S3 := Lib.hid h3.swap; have d3 := HG.out _ _ _ _ _ h3.swap; clear h3))
          go_roundw
          case rel => exact ⟨j + 1, L - q, by omega, by go_num, rfl, ⟨by omega, by omega⟩, HL2, S3⟩
          case measure => simp [intOf]; omega
        · obtain rfl : j = k := by omega
          obtain ⟨g1', cap1, rfl, b1, b2, b3, b4⟩ := S1.out.form (by omega)
          obtain ⟨g2', cap2, rfl, c1, c2, c3, c4⟩ := S1.out.swap.form (by omega)
          obtain ⟨m0, m1⟩ := le_bd (size := T) (w := F) hW0 HSM.out
          have hLe : L = leP T S F j := HLL.out
          rw [← hLe] at m0
          obtain ⟨ln, hln⟩ : ∃ ln : Nat, L = (ln : Int) := ⟨L.toNat, by omega⟩
          have hln2 : ln ≤ j := by
            have h2 := le_lt_n (size := T) (w := F) hW0 HSM.out
            rw [← hLe] at h2; omega
          have HLN : Hid ((ln : Int) = leP T S F j) := by show _ = _; rw [← hln]; exact hLe
          have S2 : Hid (TwoR w (.slice (some ⟨g1', 0, none⟩) j cap1) (.slice (some ⟨g2', 0, none⟩) j cap2) j j (lsB (ptP T S F fun _ => false) j) (lsB (rsP T S F fun _ => false) j) wr) := by
            have e1 : lsB (ptP T S F fun _ => false) j = lsB (loP T S F) j := lsB_ext fun i _ => by unfold ptP; simp
            have e2 : lsB (rsP T S F fun _ => false) j = lsB (reP T S F) j := lsB_ext fun i _ => by unfold rsP; simp
            show TwoR _ _ _ _ _ _ _ _
            rw [e1, e2]; exact S1.out
          subst hln
          clear S1 m0 m1 hLe HLL HF hlt b1 b2 b3 b4 c1 c2 c3 c4 l0 l1
          go_wp2
          go_loopw [11] (fun l wr => ∃ (m : Nat) (C : Nat → Bool), m ≤ ln ∧ l = .int .i64 m ∧ Hid (DomP T S F j C) ∧ Hid ((cnF C j : Int) + m = leP T S F j) ∧ Hid (TwoR w (.slice (some ⟨g1', 0, none⟩) j cap1) (.slice (some ⟨g2', 0, none⟩) j cap2) j j (lsB (ptP T S F C) j) (lsB (rsP T S F C) j) wr)) (fun l _ => (intOf l).toNat)
          case atStart => exact ⟨ln, fun _ => false, by omega, rfl, DomP.none, by
            show _ = _
            rw [← HLN.out, show cnF (fun _ => false) j = 0 from cnF_none j]; omega, S2⟩
          case round =>
            clear S2 HLN
            obtain ⟨m, C, hm, rfl, HD, HCN, S3⟩ := hrel
            by_cases hm0 : 0 < m
            · have hm1 : (0 : Int) < (m : Int) := by omega
              have hcn : cnF C j < j := by
                have h2 := le_lt_n (size := T) (w := F) hW0 HSM.out
                have := HCN.out
                omega
              have HCC := Lib.hid hcn
              have HB : Hid (∀ k, k < j → -1 ≤ rsP T S F C k ∧ rsP T S F C k ≤ 400000) := fun k hk => by
                unfold rsP
                have := re_bd (size := T) (w := F) hW0 k
                split <;> omega
              clear hcn hm0 HEND
              go_wp2
              generalize decide (0 < m) = dm
              go_loopw [13, 14] (fun b i wq => ∃ (bb ii : Nat), 1 ≤ ii ∧ ii ≤ j ∧ bb < ii ∧ b = .int .i64 bb ∧ i = .int .i64 ii ∧ Hid (BestK (rsP T S F C) bb ii) ∧ Hid (TwoR w (.slice (some ⟨g1', 0, none⟩) j cap1) (.slice (some ⟨g2', 0, none⟩) j cap2) j j (lsB (ptP T S F C) j) (lsB (rsP T S F C) j) wq)) (fun _ i _ => j - (intOf i).toNat)
              case atStart => exact ⟨0, 1, by omega, by omega, by omega, rfl, rfl, BestK.start _, S3⟩
              case round =>
                clear S3
                obtain ⟨bb, ii, h1, h2, h3, rfl, rfl, HBK, S4⟩ := hrel
                by_cases hlt : ii < j
                · have ca := S4.out.swap.get hlt
                  have cb := S4.out.swap.get (show bb < j by omega)
                  have hi1 : (ii : Int) < (j : Int) := by omega
                  have hi2 : (bb : Int) < (j : Int) := by omega
                  have hcc : (rsP T S F C bb < rsP T S F C ii ∧ BestK (rsP T S F C) ii (ii + 1)) ∨ (¬ rsP T S F C bb < rsP T S F C ii ∧ BestK (rsP T S F C) bb (ii + 1)) := by
                    by_cases hc : rsP T S F C bb < rsP T S F C ii
                    · exact .inl ⟨hc, HBK.out.take hc⟩
                    · exact .inr ⟨hc, HBK.out.keep hc⟩
                  clear HBK HB HCC HD HCN HWS HLE HSM HWB HA
                  rcases hcc with ⟨hc, hb2⟩ | ⟨hc, hb2⟩
                  · have HK2 := Lib.hid hb2
                    generalize rsP T S F C bb = y at *
                    generalize rsP T S F C ii = x at *
                    have hcd : decide (x > y) = true := decide_eq_true hc
                    clear hb2 hlt h3
                    go_wp2_with fail
                    go_quiet (fail)
                    have S5 := Lib.hid (S4.out.drewN nq)
                    generalize wr.drewN nq = wy at *
                    clear S4 ca cb
                    go_wp2
                    go_roundw
                    case rel => exact ⟨ii, ii + 1, by omega, by omega, by omega, rfl, by go_num, HK2, S5⟩
                    case measure => simp [intOf]; omega
                  · have HK2 := Lib.hid hb2
                    generalize rsP T S F C bb = y at *
                    generalize rsP T S F C ii = x at *
                    have hcd : decide (x > y) = false := decide_eq_false hc
                    clear hb2 hlt
                    go_wp2_with fail
                    go_quiet (fail)
                    have S5 := Lib.hid (S4.out.drewN nq)
                    generalize wr.drewN nq = wy at *
                    clear S4 ca cb
                    go_wp2
                    go_roundw
                    case rel => exact ⟨bb, ii + 1, by omega, by omega, by omega, rfl, by go_num, HK2, S5⟩
                    case measure => simp [intOf]; omega
                · obtain rfl : ii = j := by omega
                  obtain ⟨p1, p2⟩ := best_free hW0 HCC.out HBK.out
                  have ca := S4.out.get h3
                  have cb := S4.out.swap.get h3
                  have fa := S4.out.l.frozenAt bb
                  have fb := S4.out.r.frozenAt bb
                  have hi2 : (bb : Int) < (ii : Int) := by omega
                  have hv : ptP T S F C bb = loP T S F bb := by unfold ptP; rw [p1]; simp
                  have hlo := HLE.out bb h3
                  have hv0 : 0 ≤ ptP T S F C bb ∧ ptP T S F C bb ≤ 1125899906842624 := by rw [hv]; omega
                  have S5 := S4.out.setL bb (ptP T S F C bb + 1)
                  have cb2 := S5.swap.get h3
                  have fb2 := S5.r.frozenAt bb
                  have S6 := (S5.swap.setL bb (-1)).swap
                  have e1 : (lsB (ptP T S F C) ii).set bb (ptP T S F C bb + 1) = lsB (ptP T S F fun i => decide (i = bb) || C i) ii := by
                    have hx : ptP T S F C bb + 1 = ptP T S F (fun i => decide (i = bb) || C i) bb := by rw [hv]; unfold ptP; simp
                    rw [hx]
                    exact lsB_set _ _ h3 fun k hk hne => by unfold ptP; simp only [decide_eq_false hne, Bool.false_or]
                  have e2 : (lsB (rsP T S F C) ii).set bb (-1) = lsB (rsP T S F fun i => decide (i = bb) || C i) ii := by
                    have hx : -1 = rsP T S F (fun i => decide (i = bb) || C i) bb := by unfold rsP; simp
                    rw [hx]
                    exact lsB_set _ _ h3 fun k hk hne => by unfold rsP; simp only [decide_eq_false hne, Bool.false_or]
                  rw [e1, e2] at S6
                  have S7 := Lib.hid S6
                  have HD2 := Lib.hid (HD.out.step h3 fun k hk h9 h8 => p2 k hk h9 h8)
                  have hcs := cnF_set C ii h3 p1
                  have HCN2 : Hid ((cnF (fun i => decide (i = bb) || C i) ii : Int) + ((m - 1 : Nat) : Int) = leP T S F ii) := by
                    show _ = _
                    have := HCN.out
                    rw [hcs]; omega
                  obtain ⟨hv1, hv2⟩ := hv0
                  clear S4 S5 S6 e1 e2 hcs HD HCN HBK HB HCC p1 p2 HWS HLE HSM HWB HA hlo hv hlt
                  generalize ptP T S F C bb = v at *
                  generalize rsP T S F C bb = y at *
                  go_wp2
                  go_roundw
                  case rel => exact ⟨m - 1, fun i => decide (i = bb) || C i, by omega, by go_num, HD2, HCN2, S7⟩
                  case measure => simp [intOf]; omega
            · obtain rfl : m = 0 := by omega
              have hch : Chs T S F j C := chs_of HD.out (by have := HCN.out; omega)
              have HP := Lib.hid (HEND.out g1' cap1 C wr hch (hsA_ownX S3.out.l) S3.out.bel)
              clear HEND S3 HD HCN hch HWS HLE HSM HWB HA
              go_wp2
              go_ret2
              exact HP.out
theorem rsplit_neg (t : Int) (A : Option Addr) (c : Nat) (ws : List Int) (n : Nat) (hn : ws.length = n) (n0 : 1 ≤ n) (n1 : n ≤ 100) (F : Nat → Int) (hF : wgt ws = F) (w : World) (hA : HsA w A ws) (h : amB t = true) (hw : ∀ k, k < n → wgB (F k) = true) (hz : smF F n ≠ 0) (T W : Int) (hT : sizI t = T) (hWW : smF F n = W) (ht : t < 0) :
    Calls Try.prog 5 #[.int .i64 t, .slice A n c] w (RSpR t ws w) := by
  have hT2 : -t = T := by rw [← hT]; unfold sizI; rw [if_pos ht]
  skip
  have HC := Lib.hid (ramount_any t true h)
  obtain ⟨t0, t1⟩ := (amB_iff t).1 h
  have hwb : ∀ k, k < n → 0 ≤ F k ∧ F k ≤ 4000 := fun k hk => by
    have := hw k hk
    unfold wgB at this
    rw [Bool.and_eq_true, decide_eq_true_eq, decide_eq_true_eq] at this
    exact this
  have hsb : ∀ k, k ≤ n → 0 ≤ smF F k ∧ smF F k ≤ 4000 * (k : Int) := by
    intro k
    induction k with
    | zero => intro _; show 0 ≤ (0 : Int) ∧ (0 : Int) ≤ 4000 * 0; omega
    | succ k ih =>
      intro hk
      have h1 := ih (by omega)
      have h2 := hwb k (by omega)
      show 0 ≤ smF F k + F k ∧ smF F k + F k ≤ 4000 * ((k + 1 : Nat) : Int)
      omega
  have hW0 : 0 < W := by have := hsb n (Nat.le_refl _); omega
  have hW1 : W ≤ 400000 := by have := hsb n (Nat.le_refl _); omega
  have hT0 : 0 ≤ T := by omega
  have hT1 : T ≤ 1125899906842624 := by omega
  have g0 : 1 ≤ (n : Int) := by omega
  have g1 : (n : Int) ≤ 100 := by omega
  have HA := Lib.hid hA
  have HL := Lib.hid hn
  have HF : Hid (∀ i, ws.getD i 0 = F i) := fun i => by rw [← hF]; rfl
  have HS : Hid (∀ k, smF F (k + 1) = smF F k + F k) := fun k => rfl
  have HZ : Hid (smF F 0 = 0) := rfl
  have HWB := Lib.hid hwb
  have HSB := Lib.hid hsb
  have HSM := Lib.hid hWW
  have hle : ∀ k, k < n → 0 ≤ loP T W F k ∧ loP T W F k ≤ T := fun i hi => by
    have h1 := smF_mem (f := F) (n := n) (fun i hi => (hwb i hi).1) hi
    rw [hWW] at h1
    exact ⟨Int.ediv_nonneg (Int.mul_nonneg hT0 (hwb i hi).1) (by omega), Int.ediv_le_of_le_mul hW0 (Int.mul_le_mul_of_nonneg_left h1 hT0)⟩
  have HLE := Lib.hid hle
  have HEND : Hid (∀ (b cap : Nat) (C : Nat → Bool) (w' : World), Chs T W F n C → HsA w' (some ⟨b, 0, none⟩) (lsB (fun j => -(ptP T W F C j)) n) → Below w.heap.size w w' → RSpR t ws w (.returned (.tuple #[.slice (some ⟨b, 0, none⟩) n cap, .int .i64 0])) w') := fun b cap C w' k1 k2 k3 => by
    have e1 : wgS ws = W := by unfold wgS; rw [hF, hn]; exact hWW
    refine ⟨b, cap, C, by rw [hn], ?_, by rw [hT, e1, hF, hn]; exact k1, k3⟩
    unfold spL
    rw [e1, hF, hn]
    have e2 : lsB (fun j => -(ptP T W F C j)) n = (List.range n).map (shP t W F C) := List.map_congr_left fun j _ => by
      unfold shP sgP
      rw [if_pos ht, hT]
    rw [← e2]; exact k2
  obtain ⟨i0, hi, hz0, hz1, hz2⟩ : ∃ i0, Try.prog.info? 3 = some i0 ∧ i0.zero = some (.int .i64 0) ∧ i0.size = 1 ∧ i0.bytes = 8 := by
    have := infoM
    cases h : Try.prog.info? 3 with
    | none => rw [h] at this; cases this
    | some i0 =>
      rw [h] at this
      simp only [Option.map_some, Option.some.injEq, Prod.mk.injEq] at this
      exact ⟨i0, rfl, this.1, this.2.1, this.2.2⟩
  clear h hA hn hF hw hwb hsb hz hle hT
  go_enter Try.func5, Try.ntmps5
  go_wp2_with (go_at_call 12; ((with_reducible refine (HC.out _).mono ?_); rintro x w1 ⟨rfl, rfl⟩))
  go_loop [6, 7] (fun s i => ∃ (k : Nat) (S : Int), k ≤ n ∧ i = .int .i64 k ∧ s = .int .i64 S ∧ Hid (S = smF F k) ∧ (0 ≤ S ∧ S ≤ 4000 * (k : Int))) (fun _ i => n - (intOf i).toNat)
  case atStart => exact ⟨0, _, by omega, rfl, rfl, HZ.out.symm, by simp⟩
  case round =>
    obtain ⟨k, S, hk, rfl, rfl, HSS, ⟨s0, s1⟩⟩ := hrel
    by_cases hlt : k < n
    · obtain ⟨b, o, rfl, -, hcell⟩ := HA.out.get (show k < ws.length by rw [HL.out]; exact hlt)
      have d0 := hcell k (by rw [HL.out]; exact hlt)
      rw [HF.out] at d0
      have hk1 : (k : Int) < (n : Int) := by omega
      obtain ⟨hx0, hx1⟩ := HWB.out k hlt
      have HS1 : Hid (S + F k = smF F (k + 1)) := by show _ = _; rw [HS.out, HSS.out]
      clear hcell HS HSS HF HWB HSB HSM HLE HEND HA HZ
      generalize F k = x at *
      go_wp2
      go_round
      case rel => exact ⟨k + 1, _, by omega, by go_num, rfl, HS1, ⟨by omega, by omega⟩⟩
      case measure => simp [intOf]; omega
    · obtain rfl : k = n := by omega
      obtain rfl : S = W := by rw [HSS.out]; exact HSM.out
      have hS1 : (S == 0) = false := by rw [beq_eq_false_iff_ne]; omega
      have HWS := HSS
      clear HSS HZ HS HSB hlt
      go_wp2
      go_loopw [9, 10, 11, 12] (fun u v l i wr => ∃ (j : Nat) (L : Int), j ≤ k ∧ i = .int .i64 j ∧ l = .int .i64 L ∧ (-(1125899906842624 * (j : Int)) ≤ L ∧ L ≤ T) ∧ Hid (L = T - smF (loP T S F) j) ∧ Hid (TwoR w u v j j (lsB (loP T S F) j) (lsB (reP T S F) j) wr)) (fun _ _ _ i _ => k - (intOf i).toNat)
      case atStart => exact ⟨0, T, by omega, rfl, by rfl, ⟨by omega, by omega⟩, by show T = T - 0; omega, TwoR.nil w⟩
      case round =>
        obtain ⟨j, L, hj, rfl, rfl, ⟨l0, l1⟩, HLL, S1⟩ := hrel
        by_cases hlt : j < k
        · obtain ⟨b, o, rfl, -, hcell⟩ := HA.out.get (show j < ws.length by rw [HL.out]; exact hlt)
          have hc0 := hcell j (by rw [HL.out]; exact hlt)
          rw [HF.out] at hc0
          have HC0 := Lib.hid hc0
          have d0 := (S1.out.bel.cell (p := ⟨b, o + j, none⟩) (World.block_lt_of_cell? w _ hc0)).trans hc0
          have hk1 : (j : Int) < (k : Int) := by omega
          obtain ⟨hx0, hx1⟩ := HWB.out j hlt
          obtain ⟨hp0, hp1⟩ := prod_fit hT0 hT1 hx0 hx1
          obtain ⟨q0, q1⟩ := HLE.out j hlt
          obtain ⟨r0, r1⟩ := re_bd (size := T) (w := F) hW0 j
          have hlo1 : T * F j / S = loP T S F j := rfl
          have hlo2 : T * F j % S = reP T S F j := rfl
          have HL2 : Hid (L - loP T S F j = T - smF (loP T S F) (j + 1)) := by
            show _ = _
            rw [HLL.out]
            show T - smF (loP T S F) j - loP T S F j = T - (smF (loP T S F) j + loP T S F j)
            omega
          have HE1 : Hid (lsB (loP T S F) j ++ [loP T S F j] = lsB (loP T S F) (j + 1)) := lsB_succ _ _
          have HE2 : Hid (lsB (reP T S F) j ++ [reP T S F j] = lsB (reP T S F) (j + 1)) := lsB_succ _ _
          have HG : Hid (∀ (u : Value) (g cap : Nat) (ys : List Int) (wr : World), TwoR w (.slice (some ⟨g, 0, none⟩) (j + 1) cap) u (j + 1) (j + 1) (lsB (loP T S F) (j + 1)) ys wr → wr.cell? ⟨g, j, none⟩ = some (.int .i64 (loP T S F j))) := fun u g cap ys wr h => h.get (by omega)
          generalize F j = x at *
          obtain ⟨p, hp⟩ : ∃ p, T * x = p := ⟨_, rfl⟩
          rw [hp] at hp0 hp1 hlo1 hlo2
          generalize loP T S F j = q at *
          generalize reP T S F j = r at *
          have hwp : IntKind.i64.wrap (T * x) = p := by rw [hp, IntKind.wrap_i64]; omega
          have hq : p.tdiv S = q := by rw [Int.tdiv_eq_ediv_of_nonneg hp0]; exact hlo1
          have hr : p.tmod S = r := by rw [Int.tmod_eq_emod_of_nonneg hp0]; exact hlo2
          clear HF HSM HLE HEND HA HWB HLL HWS hcell hlo1 hlo2 hc0
          go_wp2_with (first
            | (at_builtin; refine wpList_app2 S1.out q rfl _ _ 22 rfl i0 (.int .i64 0) Try.underlying22 hi hz0 hz1 hz2 rfl rfl rfl (by omega) ?_; intro v1 w2 h2; rw [HE1.out] at h2; obtain ⟨g1, cap1, rfl, -, -, -, -⟩ := h2.form (by omega); have S2 := Lib.hid h2; have d2 := (h2.bel.cell (p := ⟨b, o + j, none⟩) (World.block_lt_of_cell? w _ HC0.out)).trans HC0.out; clear h2)
            | (at_builtin; refine wpList_app2 S2.out.swap r rfl _ _ 22 rfl i0 (.int .i64 0) Try.underlying22 hi hz0 hz1 hz2 rfl rfl rfl (by omega) ?_; intro v2 w3 h3; rw [HE2.out] at h3; have S3 := Lib.hid h3.swap; have d3 := HG.out _ _ _ _ _ h3.swap; clear h3))
          go_roundw
          case rel => exact ⟨j + 1, L - q, by omega, by go_num, rfl, ⟨by omega, by omega⟩, HL2, S3⟩
          case measure => simp [intOf]; omega
        · obtain rfl : j = k := by omega
          obtain ⟨g1', cap1, rfl, b1, b2, b3, b4⟩ := S1.out.form (by omega)
          obtain ⟨g2', cap2, rfl, c1, c2, c3, c4⟩ := S1.out.swap.form (by omega)
          obtain ⟨m0, m1⟩ := le_bd (size := T) (w := F) hW0 HSM.out
          have hLe : L = leP T S F j := HLL.out
          rw [← hLe] at m0
          obtain ⟨ln, hln⟩ : ∃ ln : Nat, L = (ln : Int) := ⟨L.toNat, by omega⟩
          have hln2 : ln ≤ j := by
            have h2 := le_lt_n (size := T) (w := F) hW0 HSM.out
            rw [← hLe] at h2; omega
          have HLN : Hid ((ln : Int) = leP T S F j) := by show _ = _; rw [← hln]; exact hLe
          have S2 : Hid (TwoR w (.slice (some ⟨g1', 0, none⟩) j cap1) (.slice (some ⟨g2', 0, none⟩) j cap2) j j (lsB (ptP T S F fun _ => false) j) (lsB (rsP T S F fun _ => false) j) wr) := by
            have e1 : lsB (ptP T S F fun _ => false) j = lsB (loP T S F) j := lsB_ext fun i _ => by unfold ptP; simp
            have e2 : lsB (rsP T S F fun _ => false) j = lsB (reP T S F) j := lsB_ext fun i _ => by unfold rsP; simp
            show TwoR _ _ _ _ _ _ _ _
            rw [e1, e2]; exact S1.out
          subst hln
          clear S1 m0 m1 hLe HLL HF hlt b1 b2 b3 b4 c1 c2 c3 c4 l0 l1
          go_wp2
          go_loopw [11] (fun l wr => ∃ (m : Nat) (C : Nat → Bool), m ≤ ln ∧ l = .int .i64 m ∧ Hid (DomP T S F j C) ∧ Hid ((cnF C j : Int) + m = leP T S F j) ∧ Hid (TwoR w (.slice (some ⟨g1', 0, none⟩) j cap1) (.slice (some ⟨g2', 0, none⟩) j cap2) j j (lsB (ptP T S F C) j) (lsB (rsP T S F C) j) wr)) (fun l _ => (intOf l).toNat)
          case atStart => exact ⟨ln, fun _ => false, by omega, rfl, DomP.none, by
            show _ = _
            rw [← HLN.out, show cnF (fun _ => false) j = 0 from cnF_none j]; omega, S2⟩
          case round =>
            clear S2 HLN
            obtain ⟨m, C, hm, rfl, HD, HCN, S3⟩ := hrel
            by_cases hm0 : 0 < m
            · have hm1 : (0 : Int) < (m : Int) := by omega
              have hcn : cnF C j < j := by
                have h2 := le_lt_n (size := T) (w := F) hW0 HSM.out
                have := HCN.out
                omega
              have HCC := Lib.hid hcn
              have HB : Hid (∀ k, k < j → -1 ≤ rsP T S F C k ∧ rsP T S F C k ≤ 400000) := fun k hk => by
                unfold rsP
                have := re_bd (size := T) (w := F) hW0 k
                split <;> omega
              clear hcn hm0 HEND
              go_wp2
              generalize decide (0 < m) = dm
              go_loopw [13, 14] (fun b i wq => ∃ (bb ii : Nat), 1 ≤ ii ∧ ii ≤ j ∧ bb < ii ∧ b = .int .i64 bb ∧ i = .int .i64 ii ∧ Hid (BestK (rsP T S F C) bb ii) ∧ Hid (TwoR w (.slice (some ⟨g1', 0, none⟩) j cap1) (.slice (some ⟨g2', 0, none⟩) j cap2) j j (lsB (ptP T S F C) j) (lsB (rsP T S F C) j) wq)) (fun _ i _ => j - (intOf i).toNat)
              case atStart => exact ⟨0, 1, by omega, by omega, by omega, rfl, rfl, BestK.start _, S3⟩
              case round =>
                clear S3
                obtain ⟨bb, ii, h1, h2, h3, rfl, rfl, HBK, S4⟩ := hrel
                by_cases hlt : ii < j
                · have ca := S4.out.swap.get hlt
                  have cb := S4.out.swap.get (show bb < j by omega)
                  have hi1 : (ii : Int) < (j : Int) := by omega
                  have hi2 : (bb : Int) < (j : Int) := by omega
                  have hcc : (rsP T S F C bb < rsP T S F C ii ∧ BestK (rsP T S F C) ii (ii + 1)) ∨ (¬ rsP T S F C bb < rsP T S F C ii ∧ BestK (rsP T S F C) bb (ii + 1)) := by
                    by_cases hc : rsP T S F C bb < rsP T S F C ii
                    · exact .inl ⟨hc, HBK.out.take hc⟩
                    · exact .inr ⟨hc, HBK.out.keep hc⟩
                  clear HBK HB HCC HD HCN HWS HLE HSM HWB HA
                  rcases hcc with ⟨hc, hb2⟩ | ⟨hc, hb2⟩
                  · have HK2 := Lib.hid hb2
                    generalize rsP T S F C bb = y at *
                    generalize rsP T S F C ii = x at *
                    have hcd : decide (x > y) = true := decide_eq_true hc
                    clear hb2 hlt h3
                    go_wp2_with fail
                    go_quiet (fail)
                    have S5 := Lib.hid (S4.out.drewN nq)
                    generalize wr.drewN nq = wy at *
                    clear S4 ca cb
                    go_wp2
                    go_roundw
                    case rel => exact ⟨ii, ii + 1, by omega, by omega, by omega, rfl, by go_num, HK2, S5⟩
                    case measure => simp [intOf]; omega
                  · have HK2 := Lib.hid hb2
                    generalize rsP T S F C bb = y at *
                    generalize rsP T S F C ii = x at *
                    have hcd : decide (x > y) = false := decide_eq_false hc
                    clear hb2 hlt
                    go_wp2_with fail
                    go_quiet (fail)
                    have S5 := Lib.hid (S4.out.drewN nq)
                    generalize wr.drewN nq = wy at *
                    clear S4 ca cb
                    go_wp2
                    go_roundw
                    case rel => exact ⟨bb, ii + 1, by omega, by omega, by omega, rfl, by go_num, HK2, S5⟩
                    case measure => simp [intOf]; omega
                · obtain rfl : ii = j := by omega
                  obtain ⟨p1, p2⟩ := best_free hW0 HCC.out HBK.out
                  have ca := S4.out.get h3
                  have cb := S4.out.swap.get h3
                  have fa := S4.out.l.frozenAt bb
                  have fb := S4.out.r.frozenAt bb
                  have hi2 : (bb : Int) < (ii : Int) := by omega
                  have hv : ptP T S F C bb = loP T S F bb := by unfold ptP; rw [p1]; simp
                  have hlo := HLE.out bb h3
                  have hv0 : 0 ≤ ptP T S F C bb ∧ ptP T S F C bb ≤ 1125899906842624 := by rw [hv]; omega
                  have S5 := S4.out.setL bb (ptP T S F C bb + 1)
                  have cb2 := S5.swap.get h3
                  have fb2 := S5.r.frozenAt bb
                  have S6 := (S5.swap.setL bb (-1)).swap
                  have e1 : (lsB (ptP T S F C) ii).set bb (ptP T S F C bb + 1) = lsB (ptP T S F fun i => decide (i = bb) || C i) ii := by
                    have hx : ptP T S F C bb + 1 = ptP T S F (fun i => decide (i = bb) || C i) bb := by rw [hv]; unfold ptP; simp
                    rw [hx]
                    exact lsB_set _ _ h3 fun k hk hne => by unfold ptP; simp only [decide_eq_false hne, Bool.false_or]
                  have e2 : (lsB (rsP T S F C) ii).set bb (-1) = lsB (rsP T S F fun i => decide (i = bb) || C i) ii := by
                    have hx : -1 = rsP T S F (fun i => decide (i = bb) || C i) bb := by unfold rsP; simp
                    rw [hx]
                    exact lsB_set _ _ h3 fun k hk hne => by unfold rsP; simp only [decide_eq_false hne, Bool.false_or]
                  rw [e1, e2] at S6
                  have S7 := Lib.hid S6
                  have HD2 := Lib.hid (HD.out.step h3 fun k hk h9 h8 => p2 k hk h9 h8)
                  have hcs := cnF_set C ii h3 p1
                  have HCN2 : Hid ((cnF (fun i => decide (i = bb) || C i) ii : Int) + ((m - 1 : Nat) : Int) = leP T S F ii) := by
                    show _ = _
                    have := HCN.out
                    rw [hcs]; omega
                  obtain ⟨hv1, hv2⟩ := hv0
                  clear S4 S5 S6 e1 e2 hcs HD HCN HBK HB HCC p1 p2 HWS HLE HSM HWB HA hlo hv hlt
                  generalize ptP T S F C bb = v at *
                  generalize rsP T S F C bb = y at *
                  go_wp2
                  go_roundw
                  case rel => exact ⟨m - 1, fun i => decide (i = bb) || C i, by omega, by go_num, HD2, HCN2, S7⟩
                  case measure => simp [intOf]; omega
            · obtain rfl : m = 0 := by omega
              have hch : Chs T S F j C := chs_of HD.out (by have := HCN.out; omega)
              have HP : Hid (∀ wz, TwoR w (.slice (some ⟨g1', 0, none⟩) j cap1) (.slice (some ⟨g2', 0, none⟩) j cap2) j j (lsB (fun i => if i < j then -(ptP T S F C i) else ptP T S F C i) j) (lsB (rsP T S F C) j) wz → RSpR t ws w (.returned (.tuple #[.slice (some ⟨g1', 0, none⟩) j cap1, .int .i64 0])) wz) := fun wz hz => by
                have e1 : lsB (fun i => if i < j then -(ptP T S F C i) else ptP T S F C i) j = lsB (fun i => -(ptP T S F C i)) j := lsB_ext fun i hi => by rw [if_pos hi]
                have hz1 := hz.l
                rw [e1] at hz1
                exact HEND.out g1' cap1 C wz hch (hsA_ownX hz1) hz.bel
              have HPB : Hid (∀ k, k < j → -1125899906842624 ≤ ptP T S F C k ∧ ptP T S F C k ≤ 1125899906842625) := fun k hk => by
                have := HLE.out k hk
                unfold ptP
                split <;> omega
              have S4 : Hid (TwoR w (.slice (some ⟨g1', 0, none⟩) j cap1) (.slice (some ⟨g2', 0, none⟩) j cap2) j j (lsB (fun i => if i < 0 then -(ptP T S F C i) else ptP T S F C i) j) (lsB (rsP T S F C) j) wr) := by
                have e1 : lsB (fun i => if i < 0 then -(ptP T S F C i) else ptP T S F C i) j = lsB (ptP T S F C) j := lsB_ext fun i hi => by rw [if_neg (by omega)]
                show TwoR _ _ _ _ _ _ _ _
                rw [e1]; exact S3.out
              clear HEND S3 HD HCN hch HWS HLE HSM HWB HA
              go_wp2
              go_loopw [15] (fun i wq => ∃ k : Nat, k ≤ j ∧ i = .int .i64 k ∧ Hid (TwoR w (.slice (some ⟨g1', 0, none⟩) j cap1) (.slice (some ⟨g2', 0, none⟩) j cap2) j j (lsB (fun i => if i < k then -(ptP T S F C i) else ptP T S F C i) j) (lsB (rsP T S F C) j) wq)) (fun i _ => j - (intOf i).toNat)
              case atStart => exact ⟨0, by omega, rfl, S4⟩
              case round =>
                clear S4
                obtain ⟨k, hk, rfl, S5⟩ := hrel
                by_cases hlt : k < j
                · have ca := S5.out.get hlt
                  rw [if_neg (Nat.lt_irrefl k)] at ca
                  have fa := S5.out.l.frozenAt k
                  have hk1 : (k : Int) < (j : Int) := by omega
                  obtain ⟨p1, p2⟩ := HPB.out k hlt
                  have S6 := S5.out.setL k (-(ptP T S F C k))
                  have e1 : (lsB (fun i => if i < k then -(ptP T S F C i) else ptP T S F C i) j).set k (-(ptP T S F C k)) = lsB (fun i => if i < k + 1 then -(ptP T S F C i) else ptP T S F C i) j := by
                    have hx : -(ptP T S F C k) = (fun i => if i < k + 1 then -(ptP T S F C i) else ptP T S F C i) k := by show _ = if k < k + 1 then _ else _; rw [if_pos (by omega)]
                    rw [hx]
                    exact lsB_set (fun i => if i < k then -(ptP T S F C i) else ptP T S F C i) (fun i => if i < k + 1 then -(ptP T S F C i) else ptP T S F C i) hlt fun i hi hne => by
                      by_cases h : i < k
                      · show (if i < k then _ else _) = if i < k + 1 then _ else _
                        rw [if_pos h, if_pos (by omega)]
                      · show (if i < k then _ else _) = if i < k + 1 then _ else _
                        rw [if_neg h, if_neg (by omega)]
                  rw [e1] at S6
                  have S7 := Lib.hid S6
                  clear S5 S6 e1 HP HPB hlt
                  generalize ptP T S F C k = v at ca p1 p2 S7 ⊢
                  go_wp2
                  go_roundw
                  case rel => exact ⟨k + 1, by omega, by go_num, S7⟩
                  case measure => simp [intOf]; omega
                · obtain rfl : k = j := by omega
                  have HQ := Lib.hid (HP.out _ S5.out)
                  clear HP HPB S5 hlt
                  go_wp2
                  go_ret2
                  exact HQ.out
end
end Go.Proofs.Ytalnfbgaiegicaa

/- Layer 7: the walk of MoneyShares. -/
import Derived.Test.YtalnfbgaiegicaaGreatDoorMpA
import Derived.Deep.CutRange
namespace Go.Proofs.YtalnfbgaiegicaaGreatDoor
open Go Go.RowKit

/-- The memory while the law looks at it. -/
structure ShrW (t : Int) (A : Option Addr) (ws : List Int) (C : Nat → Bool) (b : Nat) (w wr : World) : Prop where
  r : ∃ base, wr.ownsRow base 3 1 (.slice (some ⟨b, 0, none⟩) ws.length ws.length) ws.length ((spL t ws C).map encM)
  h : HsA wr A ws
  bel : Below w.heap.size w wr
theorem ShrW.l {t : Int} {A : Option Addr} {ws : List Int} {C : Nat → Bool} {b : Nat} {w wr : World} (h : ShrW t A ws C b w wr) {j : Nat} (hj : j < ws.length) : wr.cell? ⟨b, j, none⟩ = some (.int .i64 (shP t (wgS ws) (wgt ws) C j)) := by
  obtain ⟨base, ho⟩ := h.r
  have := own_cellM ho j (by rw [spL_len]; exact hj)
  rwa [spL_get t ws C hj] at this
theorem ShrW.drewN {t : Int} {A : Option Addr} {ws : List Int} {C : Nat → Bool} {b : Nat} {w wr : World} (h : ShrW t A ws C b w wr) (q : Nat) : ShrW t A ws C b w (wr.drewN q) := ⟨h.r, h.h, dnM h.bel q⟩
theorem shr_sum {F : Nat → Int} {n : Nat} (h : ∀ i, i < n → 0 ≤ F i ∧ F i ≤ 4000) : ∀ k, k ≤ n → 0 ≤ smF F k ∧ smF F k ≤ 4000 * (k : Int)
  | 0, _ => by show 0 ≤ (0 : Int) ∧ (0 : Int) ≤ 4000 * 0; omega
  | k + 1, hk => by
    have h1 := shr_sum h k (by omega)
    have h2 := h k (by omega)
    show 0 ≤ smF F k + F k ∧ smF F k + F k ≤ 4000 * ((k + 1 : Nat) : Int)
    omega
section
set_option maxRecDepth 1000000
set_option maxHeartbeats 16000000
theorem shares_bad (t : Int) (A : Option Addr) (c n : Nat) (w : World) (hv : VarM w) (hb : 200 < n ∨ n ≤ 200 ∧ ∀ W, Below w.heap.size w W → Calls Tryz.prog 13 #[.int .i64 t, .slice A n c] W fun e w' => e = .returned (.tuple #[.slice none 0 0, .int .i64 2]) ∧ Below W.heap.size W w') :
    Calls Tryz.prog 6 #[.int .i64 t, .slice A n c] w (BoM true w) := by
  have J0 := Lib.hid (alive7_any w hv)
  rcases hb with hb | ⟨hb, H⟩
  · have h1 : (200 : Int) < (n : Int) := by omega
    clear hv hb
    go_enter Tryz.func6, Tryz.ntmps6
    go_wp2_with (go_at_call 17; ((with_reducible refine J0.out.mono ?_); rintro e w1 ⟨rfl, b⟩; have B0 := Lib.hid b; clear b))
    go_ret
    exact ⟨rfl, B0.out⟩
  · have h1 : ¬ (200 : Int) < (n : Int) := by omega
    have J1 := Lib.hid H
    clear hv hb H
    go_enter Tryz.func6, Tryz.ntmps6
    go_wp2_with (first
      | (go_at_call 17; ((with_reducible refine J0.out.mono ?_); rintro e w1 ⟨rfl, b⟩; have B0 := Lib.hid b; clear b))
      | (go_at_call 13; ((with_reducible refine (J1.out _ B0.out).mono ?_); rintro e w2 ⟨rfl, b⟩; have B1 := Lib.hid (btM B0.out b); clear b)))
    go_ret
    exact ⟨rfl, B1.out⟩
theorem shares_walk (t : Int) (A : Option Addr) (c n : Nat) (ws : List Int) (hn : ws.length = n) (w : World) (hv : VarM w) (hE : spE t ws = 0)
    (H1 : ∀ W, Below w.heap.size w W → Calls Tryz.prog 13 #[.int .i64 t, .slice A n c] W fun e w' => ∃ (b : Nat) (C : Nat → Bool), e = .returned (SplB b n) ∧ ShrW t A ws C b w w' ∧ Chs (sizI t) (wgS ws) (wgt ws) n C) :
    Calls Tryz.prog 6 #[.int .i64 t, .slice A n c] w (BoM true w) := by
  obtain ⟨⟨t0, t1⟩, n0, n1, hw, hW0⟩ := sp_parts hE
  rw [hn] at n0 n1 hw
  have hsum : smF (wgt ws) n = wgS ws := by unfold wgS; rw [hn]
  have HS := Lib.hid (shr_sum (F := wgt ws) hw)
  have hs0 := sizI_nonneg t
  have hs1 : sizI t ≤ 1125899906842624 := by unfold sizI; split <;> omega
  have hmax := sizI_max t
  have J0 := Lib.hid (alive7_any w hv)
  have J1 := Lib.hid H1
  have HN := Lib.hid hn
  have HSS : Hid (∀ k, smF (wgt ws) (k + 1) = smF (wgt ws) k + wgt ws k) := fun k => rfl
  have HSM := Lib.hid hsum
  have HW9 := Lib.hid hw
  have g1 : (n : Int) ≤ 100 := by omega
  clear hv H1 hn hE hw hsum
  go_enter Tryz.func6, Tryz.ntmps6
  go_wp2_with (go_at_call 17; ((with_reducible refine J0.out.mono ?_); rintro e w1 ⟨rfl, b⟩; have B0 := Lib.hid b; clear b))
  refine (J1.out _ B0.out).mono ?_
  rintro e w2 ⟨b, C, rfl, hs, hC⟩
  have S1 := Lib.hid hs
  have HG : Hid (∀ k, k ≤ n → -(1125899906842624 * (k : Int)) ≤ smF (shP t (wgS ws) (wgt ws) C) k ∧ smF (shP t (wgS ws) (wgt ws) C) k ≤ 1125899906842624 * (k : Int)) := fun k hk => smF_bd (by omega) fun i hi => by
    have := shP_bd hW0 (fun i hi => (HW9.out i hi).1) hC (show i < n by omega)
    have : sizI t ≤ 1125899906842624 := by unfold sizI; split <;> omega
    omega
  have HB : Hid (∀ k, k < n → (0 ≤ wgt ws k ∧ wgt ws k ≤ 4000) ∧ -1125899906842624 ≤ shP t (wgS ws) (wgt ws) C k ∧ shP t (wgS ws) (wgt ws) C k ≤ 1125899906842624) := fun k hk => by
    have := shP_bd hW0 (fun i hi => (HW9.out i hi).1) hC (show k < n by omega)
    have : sizI t ≤ 1125899906842624 := by unfold sizI; split <;> omega
    exact ⟨HW9.out k hk, by omega, by omega⟩
  have HP : Hid (∀ k, k < n → max (shP t (wgS ws) (wgt ws) C k) (-(shP t (wgS ws) (wgt ws) C k)) = ptP (sizI t) (wgS ws) (wgt ws) C k ∧ 0 ≤ ptP (sizI t) (wgS ws) (wgt ws) C k ∧ ptP (sizI t) (wgS ws) (wgt ws) C k ≤ 1125899906842624) := fun k hk => by
    have h1 := shP_bd hW0 (fun i hi => (HW9.out i hi).1) hC (show k < n by omega)
    have : sizI t ≤ 1125899906842624 := by unfold sizI; split <;> omega
    exact ⟨(shP_one hW0 HSM.out (fun i hi => (HW9.out i hi).1) hC hk).1, h1.1, by omega⟩
  have HO : Hid (∀ k, k < n → (ptP (sizI t) (wgS ws) (wgt ws) C k = sizI t * wgt ws k / wgS ws ∨ ptP (sizI t) (wgS ws) (wgt ws) C k = sizI t * wgt ws k / wgS ws + 1) ∧ ¬ (ptP (sizI t) (wgS ws) (wgt ws) C k = sizI t * wgt ws k / wgS ws + 1 ∧ sizI t * wgt ws k % wgS ws = 0) ∧
    (shP t (wgS ws) (wgt ws) C k ≠ 0 → decide (shP t (wgS ws) (wgt ws) C k < 0) = decide (t < 0))) := fun k hk => (shP_one hW0 HSM.out (fun i hi => (HW9.out i hi).1) hC hk).2
  have H2 : Hid (∀ i, i < n → ∀ k, k < n → ¬ (wgt ws k < wgt ws i ∧ ptP (sizI t) (wgS ws) (wgt ws) C i < ptP (sizI t) (wgS ws) (wgt ws) C k)) := fun i hi k hk => shP_two hW0 hC hi hk
  have HU : Hid (smF (shP t (wgS ws) (wgt ws) C) n = t) := shP_sum hC
  have HSG : Hid (∀ k, smF (shP t (wgS ws) (wgt ws) C) (k + 1) = smF (shP t (wgS ws) (wgt ws) C) k + shP t (wgS ws) (wgt ws) C k) := fun k => rfl
  have HC := Lib.hid hC
  clear hs J0 J1 B0 hC HW9
  unfold SplB
  go_wp2
  go_loop [8, 9, 10] (fun a s i => ∃ k : Nat, k ≤ n ∧ a = .int .i64 (smF (wgt ws) k) ∧ s = .int .i64 (smF (shP t (wgS ws) (wgt ws) C) k) ∧ i = .int .i64 k) (fun _ _ i => n - (intOf i).toNat)
  case atStart => exact ⟨0, by omega, rfl, rfl, rfl⟩
  case round =>
    obtain ⟨k, hk, rfl, rfl, rfl⟩ := hrel
    obtain ⟨u0, u1⟩ := HS.out k hk
    obtain ⟨v0, v1⟩ := HG.out k hk
    by_cases hlt : k < n
    · obtain ⟨b', o, rfl, -, hcell⟩ := S1.out.h.get (show k < ws.length by rw [HN.out]; exact hlt)
      have d0 := hcell k (by rw [HN.out]; exact hlt)
      have d1 := S1.out.l (show k < ws.length by rw [HN.out]; exact hlt)
      rw [show ws.getD k 0 = wgt ws k from rfl] at d0
      obtain ⟨⟨x0, x1⟩, y0, y1⟩ := HB.out k hlt
      have hk1 : (k : Int) < (n : Int) := by omega
      have HR1 := Lib.hid (HSS.out k)
      have HR2 := Lib.hid (HSG.out k)
      clear hcell HS HG HB HP HO H2 HC HU HN HSS HSG HSM hmax hlt
      generalize smF (wgt ws) k = a1 at *
      generalize smF (shP t (wgS ws) (wgt ws) C) k = a2 at *
      generalize wgt ws k = x at *
      generalize shP t (wgS ws) (wgt ws) C k = y at *
      go_wp2
      go_round
      case rel => exact ⟨k + 1, by omega, by rw [HR1.out], by rw [HR2.out], by go_num⟩
      case measure => simp [intOf]; omega
    · obtain rfl : k = n := by omega
      rw [HU.out, HSM.out] at *
      go_wp2
      go_loopw [12] (fun i wr => ∃ m : Nat, m ≤ k ∧ i = .int .i64 m ∧ Hid (ShrW t A ws C b w wr)) (fun i _ => k - (intOf i).toNat)
      case atStart => exact ⟨0, by omega, rfl, S1⟩
      case round =>
        clear S1
        obtain ⟨m, hm, rfl, S2⟩ := hrel
        by_cases hlt : m < k
        · obtain ⟨b', o, rfl, -, hcell⟩ := S2.out.h.get (show m < ws.length by rw [HN.out]; exact hlt)
          have d0 := hcell m (by rw [HN.out]; exact hlt)
          have d1 := S2.out.l (show m < ws.length by rw [HN.out]; exact hlt)
          rw [show ws.getD m 0 = wgt ws m from rfl] at d0
          obtain ⟨⟨x0, x1⟩, y0, y1⟩ := HB.out m hlt
          obtain ⟨qm, p0, p1⟩ := HP.out m hlt
          obtain ⟨o1, o2, o3⟩ := HO.out m hlt
          have hk1 : (m : Int) < (k : Int) := by omega
          obtain ⟨e0, e1⟩ := prod_fit hs0 hs1 x0 x1
          have Hx : Hid (wgt ws m = wgt ws m) := rfl
          have Hp : Hid (ptP (sizI t) (wgS ws) (wgt ws) C m = ptP (sizI t) (wgS ws) (wgt ws) C m) := rfl
          obtain ⟨x, hx⟩ : ∃ x, x = wgt ws m := ⟨_, rfl⟩
          obtain ⟨p, hp⟩ : ∃ p, p = ptP (sizI t) (wgS ws) (wgt ws) C m := ⟨_, rfl⟩
          obtain ⟨g, hg⟩ : ∃ g, g = shP t (wgS ws) (wgt ws) C m := ⟨_, rfl⟩
          rw [← hx] at d0 x0 x1 e0 e1 o1 o2
          rw [← hg] at d1 y0 y1 qm o3
          rw [← hp] at qm p0 p1 o1 o2
          have HX := Lib.hid hx
          have HPP := Lib.hid hp
          clear hx hp hg hcell HS HG HB HO HC HU HSS HSG HSM Hx Hp
          obtain ⟨W, hW⟩ : ∃ W, W = wgS ws := ⟨_, rfl⟩
          have HWW := Lib.hid hW
          rw [← hW] at hW0 o1 o2
          rw [← hW]
          clear hW
          obtain ⟨e, he⟩ : ∃ e, sizI t * x = e := ⟨_, rfl⟩
          rw [he] at e0 e1 o1 o2
          have hq : e.tdiv W = e / W := Int.tdiv_eq_ediv_of_nonneg e0
          have hr : e.tmod W = e % W := Int.tmod_eq_emod_of_nonneg e0
          have q0 : 0 ≤ e / W := Int.ediv_nonneg e0 (by omega)
          have q2 : e / W ≤ 1125899906842624 := by omega
          have hW1 : (W == 0) = false := by rw [beq_eq_false_iff_ne]; omega
          generalize e / W = q at *
          generalize e % W = r at *
          go_wp2_with fail
          go_quiet (fail)
          have d0' : (wr.drewN nq).cell? ⟨b', o + m, none⟩ = some (.int .i64 x) := d0
          have d1' : (wr.drewN nq).cell? ⟨b, m, none⟩ = some (.int .i64 g) := d1
          have S3 := Lib.hid (S2.out.drewN nq)
          generalize wr.drewN nq = wy at *
          clear S2 d0 d1 qm hmax
          have hwq : Hid (q = q) := rfl
          have hp3 : ((p != q) = false ∧ (p == q + 1) = false) ∨ ((p != q) = true ∧ (p != q + 1) = false ∧ (p == q + 1) = true ∧ (r == 0) = false) := by
            rcases o1 with h | h
            · exact .inl ⟨by simp [h], by rw [beq_eq_false_iff_ne]; omega⟩
            · exact .inr ⟨by rw [bne_iff_ne]; omega, by simp [h], by rw [beq_iff_eq]; exact h, by rw [beq_eq_false_iff_ne]; intro e; exact o2 ⟨h, e⟩⟩
          have hg3 : (g != 0) = false ∨ ((g != 0) = true ∧ decide (g < 0) = true ∧ decide (t < 0) = true) ∨ ((g != 0) = true ∧ decide (g < 0) = false ∧ decide (t < 0) = false) := by
            by_cases h : g = 0
            · exact .inl (by simp [h])
            · have := o3 h
              by_cases h2 : g < 0
              · rw [decide_eq_true h2] at this
                exact .inr (.inl ⟨by rw [bne_iff_ne]; exact h, decide_eq_true h2, this.symm⟩)
              · rw [decide_eq_false h2] at this
                exact .inr (.inr ⟨by rw [bne_iff_ne]; exact h, decide_eq_false h2, this.symm⟩)
          clear o1 o2 o3 hwq
          go_upto_region 26 with fail
          go_cut [149] from 87 to 194 (fun s wc => s = .bool false ∧ wc = wy)
          case first =>
            rcases hp3 with ⟨a1, a2⟩ | ⟨a1, a2, a3, a4⟩ <;> rcases hg3 with b1 | ⟨b1, b2, b3⟩ | ⟨b1, b2, b3⟩
            all_goals
              go_wp2
              go_meet
              exact ⟨rfl, rfl⟩
          case rest =>
            obtain ⟨rfl, rfl⟩ := hcut
            clear hp3 hg3 hr hq he hW1 e0 e1 q0 q2
            go_wp2
            go_loopw [16] (fun i wq => ∃ j : Nat, j ≤ m ∧ i = .int .i64 j ∧ Hid (ShrW t (some ⟨b', o, none⟩) ws C b w wq)) (fun i _ => m - (intOf i).toNat)
            case atStart => exact ⟨0, by omega, rfl, S3⟩
            case round =>
              clear S3 d0' d1'
              obtain ⟨j, hj, rfl, S4⟩ := hrel
              by_cases hlt2 : j < m
              · have hj1 : (j : Int) < (m : Int) := by omega
                have hj2 : (j : Int) < (k : Int) := by omega
                have f1 := S4.out.l (show j < ws.length by rw [HN.out]; omega)
                obtain ⟨b9, o9, hA9, -, hcell⟩ := S4.out.h.get (show j < ws.length by rw [HN.out]; omega)
                obtain ⟨rfl, rfl⟩ : b' = b9 ∧ o = o9 := by injection hA9 with h; injection h with h1 h2; exact ⟨h1, h2⟩
                clear hA9
                have f2 := hcell j (by rw [HN.out]; omega)
                have f3 := hcell m (by rw [HN.out]; omega)
                rw [show ws.getD j 0 = wgt ws j from rfl] at f2
                rw [show ws.getD m 0 = wgt ws m from rfl, ← HX.out] at f3
                obtain ⟨qm2, p20, p21⟩ := HP.out j (by omega)
                have hn1 := H2.out m hlt j (by omega)
                have hn2 := H2.out j (by omega) m hlt
                rw [← HX.out, ← HPP.out] at hn1 hn2
                obtain ⟨y, hy⟩ : ∃ y, y = wgt ws j := ⟨_, rfl⟩
                obtain ⟨p2, hp2⟩ : ∃ p2, p2 = ptP (sizI t) (wgS ws) (wgt ws) C j := ⟨_, rfl⟩
                obtain ⟨g2, hg2⟩ : ∃ g2, g2 = shP t (wgS ws) (wgt ws) C j := ⟨_, rfl⟩
                rw [← hy] at f2 hn1 hn2
                rw [← hg2] at f1 qm2
                rw [← hp2] at qm2 p20 p21 hn1 hn2
                have hgb : -1125899906842624 ≤ g2 ∧ g2 ≤ 1125899906842624 := by omega
                have hd3 : (decide (x > y) = true ∧ decide (p < p2) = false ∧ decide (y > x) = false) ∨ (decide (x > y) = false ∧ decide (y > x) = true ∧ decide (p2 < p) = false) ∨ (decide (x > y) = false ∧ decide (y > x) = false) := by
                  rcases Int.lt_trichotomy x y with h | h | h
                  · exact .inr (.inl ⟨decide_eq_false (by omega), decide_eq_true h, decide_eq_false (by omega)⟩)
                  · exact .inr (.inr ⟨decide_eq_false (by omega), decide_eq_false (by omega)⟩)
                  · exact .inl ⟨decide_eq_true h, decide_eq_false (by omega), decide_eq_false (by omega)⟩
                clear hy hp2 hg2 hcell hn1 hn2 HP H2 HX HPP HN HWW hlt hlt2
                obtain ⟨g20, g21⟩ := hgb
                go_wp2_with fail
                go_quiet (fail)
                have f1' : (wr.drewN nq).cell? ⟨b, j, none⟩ = some (.int .i64 g2) := f1
                have f2' : (wr.drewN nq).cell? ⟨b', o + j, none⟩ = some (.int .i64 y) := f2
                have f3' : (wr.drewN nq).cell? ⟨b', o + m, none⟩ = some (.int .i64 x) := f3
                have S5 := Lib.hid (S4.out.drewN nq)
                generalize wr.drewN nq = wz at *
                clear S4 f1 f2 f3 qm2
                go_upto_region 32 with fail
                rcases hd3 with ⟨c1, c2, c3⟩ | ⟨c1, c2, c3⟩ | ⟨c1, c2⟩
                all_goals
                  go_quiet (fail)
                  go_wp2
                  go_roundw
                  case rel => exact ⟨j + 1, by omega, by go_num, Lib.hid (S5.out.drewN _)⟩
                  case measure => simp [intOf]; omega
              · obtain rfl : j = m := by omega
                clear HP H2 HX HPP HN HWW hlt2
                go_wp2
                go_roundw
                case rel => exact ⟨j + 1, by omega, by go_num, S4⟩
                case measure => simp [intOf]; omega
        · obtain rfl : m = k := by omega
          go_wp2
          go_ret
          exact ⟨rfl, S2.out.bel⟩
end
theorem shares_law (t : Int) (A : Option Addr) (c : Nat) (ws : List Int) (w : World) (hA : HsA w A ws) (hv : VarM w) :
    Calls Tryz.prog 6 #[.int .i64 t, .slice A ws.length c] w (BoM true w) := by
  by_cases h2 : ws.length ≤ 200
  · have HSP := fun W (hb : Below w.heap.size w W) => psplit_any t A c ws W (hA.below hb)
    by_cases hE : spE t ws = 0
    · refine shares_walk t A c ws.length ws rfl w hv hE fun W hb => ?_
      refine (HSP W hb).mono ?_
      rintro e w' (⟨h1, -⟩ | ⟨-, b, C, rfl, ho, hb2, hc⟩)
      · rw [hE] at h1; cases h1
      · exact ⟨b, C, rfl, ⟨⟨_, ho⟩, (hA.below hb).below hb2, btM hb hb2⟩, hc⟩
    · refine shares_bad t A c ws.length w hv (.inr ⟨h2, fun W hb => ?_⟩)
      refine (HSP W hb).mono ?_
      rintro e w' (⟨-, rfl, hb⟩ | ⟨h1, -⟩)
      · exact ⟨rfl, hb⟩
      · exact absurd h1 hE
  · exact shares_bad t A c ws.length w hv (.inl (by omega))
end Go.Proofs.YtalnfbgaiegicaaGreatDoor

/- Layer 7: the program's walks: a total shared by weights, the walk. -/
import Derived.Test.YtalnfbgaiegicaaMoF
namespace Go.Proofs.Ytalnfbgaiegicaa
open Go Go.RowKit

/-- The quotients, and one more for those that stand in a list. -/
def ptK (lo : Nat → Int) (n : Nat) (l : List Nat) : List Int := (List.range n).map fun j => lo j + if j ∈ l then 1 else 0
theorem ptK_len (lo : Nat → Int) (n : Nat) (l : List Nat) : (ptK lo n l).length = n := by unfold ptK; simp
theorem ptK_get (lo : Nat → Int) {n j : Nat} (l : List Nat) (h : j < n) : (ptK lo n l).getD j 0 = lo j + if j ∈ l then 1 else 0 := by
  unfold ptK; rw [List.getD_eq_getElem?_getD, List.getElem?_map, List.getElem?_range h]; rfl
theorem ptK_set (lo : Nat → Int) {n : Nat} {ord : List Nat} (hd : ord.Nodup) {k : Nat} (hk : k < ord.length) (ho : ord.getD k 0 < n) : (ptK lo n (ord.take k)).set (ord.getD k 0) ((ptK lo n (ord.take k)).getD (ord.getD k 0) 0 + 1) = ptK lo n (ord.take (k + 1)) := by
  have e1 : ord.getD k 0 = ord[k] := by rw [List.getD_eq_getElem?_getD, List.getElem?_eq_getElem hk]; rfl
  have e2 : ord.take (k + 1) = ord.take k ++ [ord.getD k 0] := by rw [e1, List.take_add_one, List.getElem?_eq_getElem hk]; rfl
  have hnot : ord.getD k 0 ∉ ord.take k := by
    rw [e1]
    intro hm
    obtain ⟨j, hj, e⟩ := List.getElem_of_mem hm
    rw [List.length_take] at hj
    rw [List.getElem_take] at e
    have := (List.getElem_inj (h₀ := by omega) (h₁ := hk) hd).1 e
    omega
  refine ext_toM (by rw [List.length_set, ptK_len, ptK_len]) fun j h => ?_
  rw [List.length_set, ptK_len] at h
  rw [ptK_get lo _ h, List.getD_eq_getElem?_getD, List.getElem?_set]
  by_cases e : ord.getD k 0 = j
  · subst e
    rw [if_pos rfl, if_pos (by rw [ptK_len]; exact ho)]
    show (ptK lo n (ord.take k)).getD (ord.getD k 0) 0 + 1 = _
    rw [ptK_get lo _ ho, if_neg hnot, if_pos (by rw [e2]; simp)]
    omega
  · rw [if_neg e, ← List.getD_eq_getElem?_getD, ptK_get lo _ h]
    have : j ∈ ord.take (k + 1) ↔ j ∈ ord.take k := by
      rw [e2, List.mem_append, List.mem_singleton]
      exact ⟨fun h => h.resolve_right (fun g => e g.symm), .inl⟩
    by_cases g : j ∈ ord.take k
    · rw [if_pos g, if_pos (this.2 g)]
    · rw [if_neg g, if_neg (fun h => g (this.1 h))]
/-- The second loop. -/
structure ShL (n : Nat) (w : World) (b0 b3 : Nat) (x : List Int) (ord : List Nat) (wr : World) : Prop where
  l : wr.ownsRow w.heap.size 3 1 (.slice (some ⟨b0, 0, none⟩) n n) n (x.map encM)
  o : ∀ k, k < n → wr.cell? ⟨b3, k, none⟩ = some (.int .i64 ((ord.getD k 0 : Nat) : Int))
  bel : Below w.heap.size w wr
theorem ShL.set1 {n : Nat} {w : World} {b0 b3 : Nat} {x : List Int} {ord : List Nat} {wr : World} (h : ShL n w b0 b3 x ord wr) (hne : b0 ≠ b3) (k : Nat) (a : Int) : ShL n w b0 b3 (x.set k a) ord (wr.setCell ⟨b0, k, none⟩ (.int .i64 a)) := by
  refine ⟨own_setM h.l k a, fun j hj => ?_, h.bel.setCell (p := ⟨b0, k, none⟩) (own_ltM h.l).1 _⟩
  rw [World.cell?_setCell_other _ _ _ _ (by intro e; simp only [Addr.mk.injEq] at e; omega)]
  exact h.o j hj
set_option maxRecDepth 1000000 in
set_option maxHeartbeats 8000000 in
theorem shares_any (T W : Int) (A : Option Addr) (c : Nat) (ws : List Int) (n : Nat) (hn : ws.length = n) (n0 : 1 ≤ n) (n1 : n ≤ 100) (F : Nat → Int) (hF : ∀ i, ws.getD i 0 = F i) (w : World) (hA : HsA w A ws) (hT0 : 0 ≤ T) (hT1 : T ≤ 1125899906842624) (hW0 : 0 < W) (hw : ∀ k, k < n → 0 ≤ F k ∧ F k ≤ 4000) (hsum : smF F n = W) :
    Calls Try.prog 11 #[.int .i64 T, .slice A n c, .int .i64 W] w fun e w' => ∃ (b : Nat) (L : List Int), e = .returned (.slice (some ⟨b, 0, none⟩) n n) ∧ w'.ownsRow w.heap.size 3 1 (.slice (some ⟨b, 0, none⟩) n n) n (L.map encM) ∧ Below w.heap.size w w' ∧ ∃ C, Chs T W F n C ∧ L = (List.range n).map (ptP T W F C) := by
  obtain ⟨i0, hi, hz0, hz1, hz2⟩ : ∃ i0, Try.prog.info? 3 = some i0 ∧ i0.zero = some (.int .i64 0) ∧ i0.size = 1 ∧ i0.bytes = 8 := by
    have := infoM
    cases h : Try.prog.info? 3 with
    | none => rw [h] at this; cases this
    | some i0 =>
      rw [h] at this
      simp only [Option.map_some, Option.some.injEq, Prod.mk.injEq] at this
      exact ⟨i0, rfl, this.1, this.2.1, this.2.2⟩
  have HA := Lib.hid hA
  have HL := Lib.hid hn
  have HF := Lib.hid hF
  have HW := Lib.hid hw
  have HS := Lib.hid hsum
  have hmf : ∀ fn first cap w, (Instr.makeFunc fn first cap).run Try.prog w = .ok (.func fn first cap) w := fun _ _ _ _ => rfl
  have mixed : Try.prog.follows Departure.mixedOrders = true := by kernel_rfl
  clear hA hn hF hw hsum
  go_enter Try.func11, Try.ntmps11
  go_wp2_with (first
    | (at_make; refine wpList_make_full w rfl _ _ 22 rfl w.heap.size 3 i0 (.int .i64 0) 1 Try.underlying22 hi hz0 hz1 _ _ _ _ n rfl rfl (by omega) (by omega) (by rw [hz2]; omega) (by unfold maxLen; omega) (Nat.le_refl _) ?_; intro w1 o1 g1)
    | (at_make; refine wpList_make_full w1 rfl _ _ 22 rfl w1.heap.size 3 i0 (.int .i64 0) 1 Try.underlying22 hi hz0 hz1 _ _ _ _ n rfl rfl (by omega) (by omega) (by rw [hz2]; omega) (by unfold maxLen; omega) (Nat.le_refl _) ?_; intro w2 o2 g2)
    | (at_make; refine wpList_make_full (w2.alloc (.cells #[.slice (some ⟨w1.heap.size, 0, none⟩) n n] 22)) rfl _ _ 22 rfl (w2.alloc (.cells #[.slice (some ⟨w1.heap.size, 0, none⟩) n n] 22)).heap.size 3 i0 (.int .i64 0) 1 Try.underlying22 hi hz0 hz1 _ _ _ _ n rfl rfl (by omega) (by omega) (by rw [hz2]; omega) (by unfold maxLen; omega) (Nat.le_refl _) ?_; intro w3 o3 g3))
  have S0 := Lib.hid (ShW.make n0 o1 g1 o2 g2 o3 g3 (loP T W F) (reP T W F) (fun i => (i : Int)))
  clear o1 g1 o2 g2 o3 g3
  rw [show (w2.alloc (.cells #[.slice (some ⟨w1.heap.size, 0, none⟩) n n] 22)).heap.size = w2.heap.size + 1 by simp] at S0
  have hne := S0.out.ne
  obtain ⟨b0, hb0⟩ : ∃ b, b = w.heap.size := ⟨_, rfl⟩
  have HB0 := Lib.hid hb0
  rw [← hb0] at S0 hne ⊢
  clear hb0
  generalize w1.heap.size = b1 at *
  generalize w2.heap.size + 1 = b3 at *
  generalize w2.heap.size = b2 at *
  clear i0 hi hz0 hz1 hz2
  go_loopw [10, 27] (fun l i wr => ∃ (k : Nat) (L : Int), k ≤ n ∧ i = .int .i64 k ∧ l = .int .i64 L ∧ (-(1125899906842624 * (k : Int)) ≤ L ∧ L ≤ T) ∧ Hid (L = T - smF (loP T W F) k) ∧ Hid (ShW n w b0 b1 b2 b3 (lstM (loP T W F) n k) (lstM (reP T W F) n k) (lstM (fun i => (i : Int)) n k) wr)) (fun _ i _ => n - (intOf i).toNat)
  case atStart => exact ⟨0, T, by omega, rfl, rfl, ⟨by omega, by omega⟩, by show T = T - 0; omega, S0⟩
  case round =>
    clear S0
    obtain ⟨k, L, hk, rfl, rfl, ⟨hL0, hL1⟩, HLL, S1⟩ := hrel
    by_cases hlt : k < n
    · obtain ⟨b, o, rfl, -, hcell⟩ := HA.out.get (show k < ws.length by rw [HL.out]; exact hlt)
      have d0 := (S1.out.bel.cell (p := ⟨b, o + k, none⟩) (World.block_lt_of_cell? w _ (hcell k (by rw [HL.out]; exact hlt)))).trans (hcell k (by rw [HL.out]; exact hlt))
      rw [HF.out] at d0
      have hk1 : (k : Int) < (n : Int) := by omega
      obtain ⟨hx0, hx1⟩ := HW.out k hlt
      obtain ⟨hp0, hp1⟩ := prod_fit hT0 hT1 hx0 hx1
      have q0 : 0 ≤ loP T W F k := Int.ediv_nonneg hp0 (by omega)
      have r0 := re_bd (size := T) (w := F) hW0 k
      have hlo : Hid (T * F k / W = loP T W F k ∧ T * F k % W = reP T W F k) := ⟨rfl, rfl⟩
      have S2 := Lib.hid (S1.out.step3 k (loP T W F k) (reP T W F k) (k : Int))
      rw [lstM_set _ hlt, lstM_set _ hlt, lstM_set (fun i => (i : Int)) hlt] at S2
      have ca := own_cellM S1.out.l k (by rw [lstM_len]; exact hlt)
      have cb := own_cellM S1.out.r k (by rw [lstM_len]; exact hlt)
      have cc := own_cellM S1.out.o k (by rw [lstM_len]; exact hlt)
      have fa := S1.out.l.frozenAt k
      have fb := S1.out.r.frozenAt k
      have fc := S1.out.o.frozenAt k
      have cx := S1.out.c
      generalize (lstM (loP T W F) n k).getD k 0 = va at ca
      generalize (lstM (reP T W F) n k).getD k 0 = vb at cb
      generalize (lstM (fun i => (i : Int)) n k).getD k 0 = vc at cc
      have cb2 : ∀ v, (wr.setCell ⟨b0, k, none⟩ v).cell? ⟨b1, k, none⟩ = some (.int .i64 vb) := fun v => by
        rw [World.cell?_setCell_other _ _ _ _ (by intro e; simp only [Addr.mk.injEq] at e; omega)]; exact cb
      have cc2 : ∀ v u, ((wr.setCell ⟨b0, k, none⟩ v).setCell ⟨b1, k, none⟩ u).cell? ⟨b3, k, none⟩ = some (.int .i64 vc) := fun v u => by
        rw [World.cell?_setCell_other _ _ _ _ (by intro e; simp only [Addr.mk.injEq] at e; omega), World.cell?_setCell_other _ _ _ _ (by intro e; simp only [Addr.mk.injEq] at e; omega)]; exact cc
      have hnext : loP T W F k ≤ T := by
        have h1 := smF_mem (f := F) (n := n) (fun i hi => (HW.out i hi).1) hlt
        rw [HS.out] at h1
        have h2 : T * F k ≤ T * W := Int.mul_le_mul_of_nonneg_left h1 hT0
        exact Int.ediv_le_of_le_mul hW0 h2
      have HL2 : Hid (L - loP T W F k = T - smF (loP T W F) (k + 1)) := by
        show _ = _
        rw [HLL.out]
        show T - smF (loP T W F) k - loP T W F k = T - (smF (loP T W F) k + loP T W F k)
        omega
      have HG : Hid ((lstM (loP T W F) n (k + 1)).getD k 0 = loP T W F k) := by show _ = _; rw [lstM_get _ hlt, if_pos (by omega)]
      generalize F k = x at *
      obtain ⟨p, hp⟩ : ∃ p, T * x = p := ⟨_, rfl⟩
      have hlo1 := hlo.out.1
      have hlo2 := hlo.out.2
      rw [hp] at hp0 hp1 hlo1 hlo2
      generalize loP T W F k = q at *
      generalize reP T W F k = r at *
      have hwp : IntKind.i64.wrap (T * x) = p := by rw [hp, IntKind.wrap_i64]; omega
      have hW1 : (W == 0) = false := by rw [beq_eq_false_iff_ne]; omega
      have hq : p.tdiv W = q := by rw [Int.tdiv_eq_ediv_of_nonneg hp0]; exact hlo1
      have hr : p.tmod W = r := by rw [Int.tmod_eq_emod_of_nonneg hp0]; exact hlo2
      clear HA HL HF HW HS hlo S1 hcell hlo1 hlo2
      go_wp2_with fail
      go_big_region_o
      have S3 := Lib.hid (S2.out.drewN 1)
      have c1 := own_cellM S3.out.l k (by rw [lstM_len]; exact hlt)
      rw [HG.out] at c1
      have c1' : (((wr.setCell ⟨b0, k, none⟩ (.int .i64 q)).setCell ⟨b1, k, none⟩ (.int .i64 r)).setCell ⟨b3, k, none⟩ (.int .i64 (k : Int))).drew.cell? ⟨b0, k, none⟩ = some (.int .i64 q) := c1
      have S4 : Hid (ShW n w b0 b1 b2 b3 (lstM (loP T W F) n (k + 1)) (lstM (reP T W F) n (k + 1)) (lstM (fun i => (i : Int)) n (k + 1)) (((wr.setCell ⟨b0, k, none⟩ (.int .i64 q)).setCell ⟨b1, k, none⟩ (.int .i64 r)).setCell ⟨b3, k, none⟩ (.int .i64 (k : Int))).drew) := S3.out
      generalize (((wr.setCell ⟨b0, k, none⟩ (.int .i64 q)).setCell ⟨b1, k, none⟩ (.int .i64 r)).setCell ⟨b3, k, none⟩ (.int .i64 (k : Int))).drew = w5 at *
      clear S3 S2 c1 ca cb cc fa fb fc cx cb2 cc2 d0 hp hwp hq hr HG HLL
      go_wp2
      go_round
      case rel => exact ⟨k + 1, L - q, by omega, by go_num, rfl, ⟨by omega, by omega⟩, HL2, S4⟩
      case measure => simp [intOf]; omega
    · obtain rfl : k = n := by omega
      obtain ⟨l0, l1⟩ := le_bd (size := T) (w := F) hW0 HS.out
      have l2 := le_lt_n (size := T) (w := F) hW0 HS.out
      have hLe : L = leP T W F k := HLL.out
      rw [← hLe] at l0 l2
      obtain ⟨ln, hln⟩ : ∃ ln : Nat, L = (ln : Int) := ⟨L.toNat, by omega⟩
      have hln1 : ln ≤ k := by omega
      have HE : Hid ((ln : Int) = leP T W F k) := by show _ = _; rw [← hln]; exact hLe
      subst hln
      clear l0 l1 l2 hLe HLL
      have hb0 := own_ltM S1.out.l
      have hb1 := own_ltM S1.out.r
      have hb3 := own_ltM S1.out.o
      have HO := Lib.hid (order_any k n0 n1 (reP T W F) b1 b2 b3 wr S1.out.c
        (fun j hj => by have := own_cellM S1.out.r j (by rw [lstM_len]; exact hj); rwa [lstM_get _ hj, if_pos hj] at this)
        (fun j hj => ⟨by have := own_cellM S1.out.o j (by rw [lstM_len]; exact hj); rwa [lstM_get (fun i => (i : Int)) hj, if_pos hj] at this, S1.out.o.frozenAt j⟩) (by omega) (by omega) hb3.2)
      have HLO : Hid (∀ i, i < k → 0 ≤ loP T W F i ∧ loP T W F i ≤ T) := fun i hi => by
        have h1 := smF_mem (f := F) (n := k) (fun i hi => (HW.out i hi).1) hi
        rw [HS.out] at h1
        exact ⟨Int.ediv_nonneg (Int.mul_nonneg hT0 (HW.out i hi).1) (by omega), Int.ediv_le_of_le_mul hW0 (Int.mul_le_mul_of_nonneg_left h1 hT0)⟩
      clear HW
      go_wp2_with (go_at_call 13; ((with_reducible refine HO.out.mono ?_); rintro e w6 ⟨rfl, ord, hol, hop, hod, hom, hoc, hob, hbel⟩))
      have T0 : Hid (ShL k w b0 b3 (ptK (loP T W F) k (ord.take 0)) ord w6) := by
        refine ⟨?_, hoc, S1.out.bel.trans (hbel.mono (by have := hb3.1; omega))⟩
        have e : ptK (loP T W F) k (ord.take 0) = lstM (loP T W F) k k := by
          refine ext_toM (by rw [ptK_len, lstM_len]) fun j h => ?_
          rw [ptK_len] at h
          rw [ptK_get _ _ h, lstM_get _ h, if_pos h, if_neg (by simp)]; omega
        rw [e]
        exact own_block S1.out.l (hob b0 hb0.2 (by omega))
      have HP := Lib.hid hop
      have HDD := Lib.hid hod
      have HM := Lib.hid hom
      have HLN := Lib.hid hol
      have hordlt : ∀ j, j < k → ord.getD j 0 < k := fun j hj => (hom _).1 (by rw [List.getD_eq_getElem?_getD, List.getElem?_eq_getElem (by rw [hol]; exact hj)]; exact List.getElem_mem _)
      have HOL := Lib.hid hordlt
      clear hol hop hod hom hoc hob hbel HO S1 hordlt
      go_loopw [66] (fun i wq => ∃ j : Nat, j ≤ ln ∧ i = .int .i64 j ∧ Hid (ShL k w b0 b3 (ptK (loP T W F) k (ord.take j)) ord wq)) (fun i _ => ln - (intOf i).toNat)
      case atStart => exact ⟨0, by omega, rfl, T0⟩
      case round =>
        clear T0
        obtain ⟨j, hj, rfl, T1⟩ := hrel
        by_cases hlt2 : j < ln
        · have d1 := T1.out.o j (by omega)
          have ho := HOL.out j (by omega)
          have d2 := own_cellM T1.out.l (ord.getD j 0) (by rw [ptK_len]; exact ho)
          have f2 := T1.out.l.frozenAt (ord.getD j 0)
          have T2 := Lib.hid (T1.out.set1 (by omega) (ord.getD j 0) ((ptK (loP T W F) k (ord.take j)).getD (ord.getD j 0) 0 + 1))
          rw [ptK_set (loP T W F) HDD.out (by rw [HLN.out]; omega) ho] at T2
          have hv : 0 ≤ (ptK (loP T W F) k (ord.take j)).getD (ord.getD j 0) 0 ∧ (ptK (loP T W F) k (ord.take j)).getD (ord.getD j 0) 0 ≤ 1125899906842625 := by
            rw [ptK_get _ _ ho]
            have := HLO.out _ ho
            split <;> omega
          have hj1 : (j : Int) < (ln : Int) := by omega
          have ho1 : ((ord.getD j 0 : Nat) : Int) < (k : Int) := by omega
          generalize ord.getD j 0 = o1 at *
          generalize (ptK (loP T W F) k (ord.take j)).getD o1 0 = v at *
          clear HOL HP HM T1 HA HL HF HS HE HLO
          go_wp2
          go_round
          case rel => exact ⟨j + 1, by omega, by go_num, T2⟩
          case measure => simp [intOf]; omega
        · obtain rfl : j = ln := by omega
          have hC := chs_sorted (size := T) (W := W) (w := F) (n := k) HP.out HDD.out HM.out HE.out hln1
          have hfin : ∃ (b : Nat) (L : List Int), Ending.returned (.slice (some ⟨b0, 0, none⟩) k k) = .returned (.slice (some ⟨b, 0, none⟩) k k) ∧ wr.ownsRow w.heap.size 3 1 (.slice (some ⟨b, 0, none⟩) k k) k (L.map encM) ∧ Below w.heap.size w wr ∧ ∃ C, Chs T W F k C ∧ L = (List.range k).map (ptP T W F C) := by
            refine ⟨b0, _, rfl, T1.out.l, T1.out.bel, _, hC, ?_⟩
            unfold ptK
            refine List.map_congr_left fun i hi => ?_
            unfold ptP
            simp
          clear HOL HP HM T1 HA HL HF HS HE hC HDD HLN
          go_wp2
          go_ret
          exact hfin
end Go.Proofs.Ytalnfbgaiegicaa

/- Layer 8: the program's Check: what is counted. -/
import Derived.Test.YtalejbabhjlehaaGreatDoorPk2
import Derived.Deep.RegionHeld3
namespace Go.Proofs.YtalejbabhjlehaaGreatDoor
open Go Go.RowKit
def FitR (p : Nat) (b : Bool) (R : Int) (w : World) (e : Ending) (w' : World) : Prop := e = .returned (.bool b) ∧ Below p w w' ∧ w'.cell? ⟨p, 0, none⟩ = some (.int .i64 R) ∧ w'.frozen? ⟨p, 0, none⟩ = w.frozen? ⟨p, 0, none⟩
theorem RowC.belowP {w w' : World} {A : Option Addr} {k i p : Nat} {cs : List Value} (h : RowC w A k i cs) (hA : ∀ b o, A = some ⟨b, o, none⟩ → b < p) (hb : Below p w w') : RowC w' A k i cs := by
  obtain ⟨b, o, h1, h2, h3⟩ := h
  exact ⟨b, o, h1, Nat.lt_of_lt_of_le h2 hb.size, fun j v hv => (hb.cell (show (⟨b, o + (i * k + j), none⟩ : Addr).block < p from hA b o h1)).trans (h3 j v hv)⟩
mutual
def Ex.Lo (p : Nat) : Ex → Prop
  | .mk _ _ _ _ A _ s => (∀ b o, A = some ⟨b, o, none⟩ → s ≠ [] → b < p) ∧ Ex.Los p s
def Ex.Los (p : Nat) : List Ex → Prop
  | [] => True
  | t :: l => Ex.Lo p t ∧ Ex.Los p l
end
theorem Ex.los_iff (p : Nat) (l : List Ex) : Ex.Los p l ↔ ∀ t ∈ l, t.Lo p := by
  induction l with
  | nil => simp [Ex.Los]
  | cons t l ih => rw [Ex.Los, ih]; simp
theorem Ex.lo_mk (p : Nat) (k : Int) (r n : ByteArray) (d : Int) (A : Option Addr) (c : Nat) (s : List Ex) : Ex.Lo p (.mk k r n d A c s) ↔ (∀ b o, A = some ⟨b, o, none⟩ → s ≠ [] → b < p) ∧ ∀ t ∈ s, t.Lo p := by
  rw [Ex.Lo, Ex.los_iff]
theorem Ex.In.lo {w : World} {t : Ex} (h : t.In w) : t.Lo w.heap.size := by
  induction t using Ex.ind with
  | h k r n d A c s ih =>
    rw [Ex.in_mk] at h
    rw [Ex.lo_mk]
    refine ⟨fun b o hA hs => ?_, fun t ht => ?_⟩
    · have h0 : 0 < s.length := List.length_pos_iff.2 hs
      obtain ⟨⟨b', o', e, h1, -⟩, -⟩ := h.2 0 h0
      rw [hA] at e
      injection e with e
      injection e with e1 e2
      omega
    · obtain ⟨j, hj, rfl⟩ := List.getElem_of_mem ht
      exact ih _ ht (h.2 j hj).2
theorem Ex.In.belowP {w w' : World} {p : Nat} {t : Ex} (h : t.In w) (hl : t.Lo p) (hb : Below p w w') : t.In w' := by
  induction t using Ex.ind with
  | h k r n d A c s ih =>
    rw [Ex.in_mk] at h ⊢
    rw [Ex.lo_mk] at hl
    refine ⟨h.1, fun j hj => ⟨(h.2 j hj).1.belowP (fun b o hA => hl.1 b o hA (List.length_pos_iff.1 (by omega))) hb, ih _ (List.getElem_mem hj) (h.2 j hj).2 (hl.2 _ (List.getElem_mem hj))⟩⟩
set_option maxRecDepth 100000 in
set_option maxHeartbeats 3200000 in
theorem pfits8_any (T : Ex) : ∀ (D p : Nat) (R : Int) (w : World), T.In w → T.Lo p → D ≤ 1000 → 0 ≤ R → R ≤ 1000 → w.cell? ⟨p, 0, none⟩ = some (.int .i64 R) → w.frozen? ⟨p, 0, none⟩ = false →
    Calls Tryz.prog 73 #[T.val, .int .i64 D, .pointer (some ⟨p, 0, none⟩)] w (FitR p (T.fit D R).1 (T.fit D R).2 w) := by
  induction T using Ex.ind with
  | h kk rr nn dd A c s ih =>
  intro D p R w hin hlo hD hR0 hR1 hp hfz
  have hpw := (spot_none hp).2
  have HB1 := Lib.hid (belO w (.cells #[.int .u8 kk, .string rr, .string nn, .int .i64 dd, .slice A s.length c] 29))
  show Calls Tryz.prog 73 #[.agg #[.int .u8 kk, .string rr, .string nn, .int .i64 dd, .slice A s.length c], .int .i64 D, .pointer (some ⟨p, 0, none⟩)] w _
  rw [Ex.fit_mk]
  have hsz : (w.setCell ⟨p, 0, none⟩ (.int .i64 (R - 1))).heap.size = w.heap.size := World.size_setCell ..
  have HS : Hid (Below p w ((w.setCell ⟨p, 0, none⟩ (.int .i64 (R - 1))).alloc (.cells #[.int .u8 kk, .string rr, .string nn, .int .i64 dd, .slice A s.length c] 29))) := by show Below _ _ _; exact Below.alloc (Below.setCell (Below.refl _ _) (Nat.le_refl _) _) (by rw [hsz]; exact Nat.le_of_lt hpw) _
  have HSc : Hid (((w.setCell ⟨p, 0, none⟩ (.int .i64 (R - 1))).alloc (.cells #[.int .u8 kk, .string rr, .string nn, .int .i64 dd, .slice A s.length c] 29)).cell? ⟨p, 0, none⟩ = some (.int .i64 (R - 1))) := by
    show _ = _
    rw [World.cell?_alloc_lt _ _ _ (by rw [hsz]; exact hpw)]
    exact World.cell?_setCell_same' _ _ _ (by rw [hp]; rfl)
  have HSf : Hid (((w.setCell ⟨p, 0, none⟩ (.int .i64 (R - 1))).alloc (.cells #[.int .u8 kk, .string rr, .string nn, .int .i64 dd, .slice A s.length c] 29)).frozen? ⟨p, 0, none⟩ = false) := by
    show _ = _
    rw [World.frozen?_alloc_past _ _ _ (by rw [hsz]; exact hpw), World.frozen?_setCell]
    exact hfz
  have hC4 : ((w.setCell ⟨p, 0, none⟩ (.int .i64 (R - 1))).alloc (.cells #[.int .u8 kk, .string rr, .string nn, .int .i64 dd, .slice A s.length c] 29)).cell? ⟨w.heap.size, 4, none⟩ = some (.slice A s.length c) := by
    rw [World.cell?_alloc_at _ _ _ _ hsz.symm]; rfl
  by_cases hD0 : D = 0
  · subst hD0
    rw [if_pos (.inl rfl)]
    clear ih hin hlo
    show Calls Tryz.prog 73 #[.agg #[.int .u8 kk, .string rr, .string nn, .int .i64 dd, .slice A s.length c], .int .i64 0, .pointer (some ⟨p, 0, none⟩)] w _
    go_enter Tryz.func73, Tryz.ntmps73
    go_wp2_with (fail)
    go_ret
    exact ⟨rfl, HS.out, HSc.out, HSf.out.trans hfz.symm⟩
  · have hz : ((D : Int) == 0) = false := by rw [beq_eq_false_iff_ne]; omega
    by_cases hR : R - 1 < 0
    · rw [if_pos (.inr hR)]
      clear ih hin hlo hD0
      go_enter Tryz.func73, Tryz.ntmps73
      go_wp2_with (fail)
      go_ret
      exact ⟨rfl, HS.out, HSc.out, HSf.out.trans hfz.symm⟩
    · rw [if_neg (by omega)]
      have HI := Lib.hid (hin.belowP hlo HS.out)
      have HL := Lib.hid hlo
      have IH := Lib.hid ih
      have hbd := hin.bd
      have hl63 : s.length ≤ 9223372036854775807 := by have : s.length ≤ 140737488351232 := hbd.c1; omega
      obtain ⟨R1, hR1⟩ : ∃ x, (Ex.fitl s (D - 1) (R - 1)).1 = x := ⟨_, rfl⟩
      obtain ⟨R2, hR2⟩ : ∃ x, (Ex.fitl s (D - 1) (R - 1)).2 = x := ⟨_, rfl⟩
      have HR0 : Hid (Ex.fitl s (D - 1) (R - 1) = (R1, R2)) := by show _ = _; rw [← hR1, ← hR2]
      rw [hR1, hR2]
      obtain ⟨E, hE, hE1⟩ : ∃ E : Nat, D - 1 = E ∧ (D : Int) = (E : Int) + 1 := ⟨D - 1, rfl, by omega⟩
      rw [hE] at HR0
      rw [hE1] at hz ⊢
      have hE2 : E ≤ 1000 := by omega
      clear hin hlo ih hbd hR1 hR2 hD0 hE hE1 hD HB1
      go_enter Tryz.func73, Tryz.ntmps73
      go_wp2_with (fail)
      have HF := Lib.hid hfz
      generalize (w.setCell ⟨p, 0, none⟩ (.int .i64 (R - 1))).alloc (.cells #[.int .u8 kk, .string rr, .string nn, .int .i64 dd, .slice A s.length c] 29) = w1 at *
      clear hsz hp hC4 hfz
      go_loopw [25] (fun i wr => ∃ (k : Nat) (Q : Int), k ≤ s.length ∧ i = .int .i64 k ∧ 0 ≤ Q ∧ Q ≤ 1000 ∧ Hid (Ex.fitl (s.drop k) E Q = (R1, R2)) ∧ Hid (Below p w1 wr) ∧ Hid (wr.cell? ⟨p, 0, none⟩ = some (.int .i64 Q)) ∧ Hid (wr.frozen? ⟨p, 0, none⟩ = false)) (fun i _ => s.length - (intOf i).toNat)
      case atStart => exact ⟨0, R - 1, by omega, rfl, by omega, by omega, by rw [List.drop_zero]; exact HR0, Below.refl _ _, HSc, HSf⟩
      case round =>
        obtain ⟨k, Q, hk, rfl, hq0, hq1, HR, HW, HWc, HWf⟩ := hrel
        by_cases hlt : k < s.length
        · have HIW := Lib.hid (HI.out.belowP HL.out HW.out)
          obtain ⟨b, o, rfl, -, hpi, d0, d1, d2, d3, d4⟩ := HIW.out.part hlt
          have hm : s[k] ∈ s := List.getElem_mem hlt
          have HP := Lib.hid hpi
          have HJ := Lib.hid (IH.out s[k] hm)
          have HLo := Lib.hid (((Ex.lo_mk ..).1 HL.out).2 s[k] hm)
          have HRR := Lib.hid (HR.out.symm.trans ((congrArg (fun l => Ex.fitl l E Q) (List.drop_eq_getElem_cons hlt)).trans (Ex.fitl_cons s[k] _ E Q)))
          generalize s[k] = t at *
          obtain ⟨f1, f2, -, f4⟩ := Ex.fit_facts t E Q hq0
          have f5 : (t.fit E Q).1 = true → 0 ≤ (t.fit E Q).2 := fun h => by
            have := (Ex.fit_facts t E Q hq0).2.2.1.1 h
            have := f4 h
            omega
          have HBp := Lib.hid (belO wr (.cells #[.int .u8 t.k, .string t.r, .string t.n, .int .i64 t.d, .slice t.A t.sub.length t.c] 29))
          have hpw2 := (spot_none HWc.out).2
          have HQ := Lib.hid (HJ.out E p Q _ (HP.out.below HBp.out) HLo.out hE2 hq0 hq1 (cellO HBp.out HWc.out) ((HBp.out.frozen (p := ⟨p, 0, none⟩) hpw2).trans HWf.out))
          have HW3 := Lib.hid (HW.out.trans (HBp.out.mono (Nat.le_of_lt hpw2)))
          have HWf3 := Lib.hid ((HBp.out.frozen (p := ⟨p, 0, none⟩) hpw2).trans HWf.out)
          clear hpi hm HI IH HJ HR HBp
          cases hb : (t.fit E Q).1
          all_goals
            rw [hb] at HQ f4 f5 HRR
            obtain ⟨Q2, hQ2⟩ : ∃ Q2, (t.fit E Q).2 = Q2 := ⟨_, rfl⟩
            rw [hQ2] at HQ f1 f2 f4 f5 HRR
            clear hb hQ2
          · have hRR : (R1, R2) = (false, Q2) := HRR.out
            injection hRR with e1 e2
            subst e1 e2
            clear HRR HR0
            go_wp2_with (go_at_call 73; ((with_reducible refine HQ.out.mono ?_); rintro x w2 ⟨rfl, hb1, hb2, hb3⟩; have HX1 := Lib.hid (HW3.out.trans hb1); have HX2 := Lib.hid hb2; have HX3 := Lib.hid (hb3.trans HWf3.out); clear hb1 hb2 hb3))
            go_ret
            exact ⟨rfl, HS.out.trans HX1.out, HX2.out, HX3.out.trans HF.out.symm⟩
          · have HR2 : Hid (Ex.fitl (List.drop (k + 1) s) E Q2 = (R1, R2)) := HRR.out.symm
            have f6 := f5 rfl
            clear HRR HR0 f4 f5
            go_wp2_with (go_at_call 73; ((with_reducible refine HQ.out.mono ?_); rintro x w2 ⟨rfl, hb1, hb2, hb3⟩; have HX1 := Lib.hid (HW3.out.trans hb1); have HX2 := Lib.hid hb2; have HX3 := Lib.hid (hb3.trans HWf3.out); clear hb1 hb2 hb3))
            go_roundw
            case rel => exact ⟨k + 1, Q2, by omega, by go_num, f6, by omega, HR2, HX1, HX2, HX3⟩
            case measure => simp [intOf]; omega
        · obtain rfl : k = s.length := by omega
          have hRR : (R1, R2) = (true, Q) := by have := HR.out; rw [List.drop_length, Ex.fitl_nil] at this; exact this.symm
          injection hRR with e1 e2
          subst e1 e2
          clear HR HR0
          go_wp2_with (fail)
          go_ret
          exact ⟨rfl, HS.out.trans HW.out, HWc.out, HWf.out.trans HF.out.symm⟩
end Go.Proofs.YtalejbabhjlehaaGreatDoor

/- Layer 3: the program's walks: number, Parse, Text. -/
import Derived.Test.YteigcgncbkjmaaaDoorDatF
namespace Go.Proofs.YteigcgncbkjmaaaDoor
open Go Go.RowKit

theorem take_snoc (l : List UInt8) (k : Nat) (h : k < l.length) : l.take (k + 1) = l.take k ++ [l[k]] := by
  rw [List.take_succ_eq_append_getElem h]
set_option maxRecDepth 100000 in
set_option maxHeartbeats 600000 in
theorem number_any (t : ByteArray) (ho : ∀ c ∈ t.data.toList, dgB c = true) (h9 : t.size ≤ 4) (w : World) :
    Calls Tryd.prog 35 #[.string t] w fun e w' => e = .returned (.int .i64 (numI t.data.toList)) ∧ w = w' := by
  have HO := Lib.hid ho
  have HB : Hid (∀ k, k ≤ 4 → 0 ≤ numI (t.data.toList.take k) ∧ numI (t.data.toList.take k) ≤ 9999) := by
    intro k hk
    have h1 := numI_bd (t.data.toList.take k) fun c hc => ho c (List.mem_of_mem_take hc)
    have h2 : (t.data.toList.take k).length ≤ 4 := Nat.le_trans (List.length_take_le _ _) hk
    have h3 : (10 : Int) ^ (t.data.toList.take k).length ≤ 10 ^ 4 := by
      have : (10 : Nat) ^ (t.data.toList.take k).length ≤ 10 ^ 4 := Nat.pow_le_pow_right (by omega) h2
      exact_mod_cast this
    have h4 : (10 : Int) ^ 4 = 10000 := by decide
    omega
  clear ho
  go_enter Tryd.func35, Tryd.ntmps35
  go_wp2
  go_loop [3, 7] (fun n i => ∃ k : Nat, k ≤ t.size ∧ i = .int .i64 k ∧ n = .int .i64 (numI (t.data.toList.take k))) (fun _ i => t.size - (intOf i).toNat)
  case atStart => exact ⟨0, by omega, rfl, rfl⟩
  case round =>
    obtain ⟨k, hk, rfl, rfl⟩ := hrel
    by_cases hlt : k < t.size
    · obtain ⟨c, hcs⟩ : ∃ c, t[k] = c := ⟨_, rfl⟩
      obtain ⟨hd1, hd2⟩ : 48 ≤ (c.toNat : Int) ∧ (c.toNat : Int) ≤ 57 := (dgB_iff _).1 (HO.out c (by rw [← hcs]; exact List.mem_of_getElem? (getElem_toList t k hlt)))
      obtain ⟨b0, b1⟩ := HB.out k (by omega)
      have HS : Hid (numI (t.data.toList.take (k + 1)) = 10 * numI (t.data.toList.take k) + ((c.toNat : Int) - 48)) := by
        show _ = _
        rw [take_snoc _ k (by simpa using hlt), numI_snoc, ← hcs]; rfl
      clear HO HB
      generalize numI (t.data.toList.take k) = v at *
      go_wp2
      go_round
      case rel => exact ⟨k + 1, by omega, by go_num, int_eq (by rw [HS.out])⟩
      case measure => simp [intOf]; omega
    · obtain rfl : k = t.size := by omega
      have HF : Hid (t.data.toList.take t.size = t.data.toList) := by show _ = _; rw [List.take_of_length_le (by simp)]
      clear HO HB
      go_wp2
      go_ret
      exact ⟨ret_int (by rw [HF.out]), rfl⟩

theorem fmB_dig (s : ByteArray) (h : fmB s.data.toList = true) (a b : Nat) (hab : b ≤ 10) (hk : ∀ k, a ≤ k → k < b → k ≠ 4 ∧ k ≠ 7) : ∀ c ∈ (s.data.toList.drop a).take (b - a), dgB c = true := by
  unfold fmB at h
  rw [Bool.and_eq_true, decide_eq_true_iff] at h
  intro c hc
  obtain ⟨i, hi, rfl⟩ := List.mem_iff_getElem.1 hc
  rw [List.length_take, List.length_drop] at hi
  have := fmK_at _ h.2 (a + i) (by omega)
  unfold atB at this
  rw [if_neg (by have := hk (a + i) (by omega) (by omega); omega)] at this
  rw [List.getElem_take, List.getElem_drop]
  rwa [List.getD_eq_getElem?_getD, List.getElem?_eq_getElem (by omega)] at this
theorem number_mid (s : ByteArray) (h : fmB s.data.toList = true) (a b : Nat) (hab : b ≤ 10) (h4 : b - a ≤ 4) (hk : ∀ k, a ≤ k → k < b → k ≠ 4 ∧ k ≠ 7) (w : World) :
    Calls Tryd.prog 35 #[.string (s.extract a b)] w fun r w' => r = .returned (.int .i64 (numI ((s.data.toList.drop a).take (b - a)))) ∧ w = w' := by
  have e1 := Lib.extract_data s a b
  have h1 := number_any (s.extract a b) (by rw [e1]; exact fmB_dig s h a b hab hk) (by rw [Lib.size_eq, e1]; exact Nat.le_trans (List.length_take_le _ _) h4) w
  rw [e1] at h1
  exact h1

theorem quiet_of {P : Program} {f : FuncId} {args : Array Value} {w : World} {n : Nat} {v : Value}
    (h : Calls P f args (w.drewN n) fun e w' => e = .returned v ∧ w.drewN n = w') : Calls P f args (w.drewN n) fun e w'' => e = .returned v ∧ ∃ m, w'' = w.drewN m :=
  h.mono fun _ _ ⟨he, hm⟩ => ⟨he, n, hm.symm⟩
set_option maxRecDepth 100000 in
set_option maxHeartbeats 1600000 in
theorem parse_any (s : ByteArray) (w : World) (hv : VarD w) :
    Calls Tryd.prog 17 #[.string s] w fun e w' => e = .returned (.tuple #[.int .i64 (paV s.data.toList), .int .i64 (paE s.data.toList)]) ∧ Below w.heap.size w w' := by
  have HF := Lib.hid ((hasForm_any s w).mono (R' := fun e w' => e = .returned (.bool (fmB s.data.toList)) ∧ Below w.heap.size w w') fun _ _ h => ⟨h.1, by obtain ⟨n, rfl⟩ := h.2; exact below_drewN (Below.refl _ _) n⟩)
  unfold paV paE
  cases hb : fmB s.data.toList
  · rw [hb] at HF
    clear hb hv
    go_enter Tryd.func17, Tryd.ntmps17
    go_wp2_with (go_at_call 34; ((with_reducible refine HF.out.mono ?_); rintro e w1 ⟨rfl, hb⟩))
    go_ret2
    exact ⟨rfl, hb⟩
  · have hl : s.size = 10 := by
      have h := hb
      unfold fmB at h
      rw [Bool.and_eq_true, decide_eq_true_iff] at h
      rw [Lib.size_eq]; exact h.1
    have H1 : Hid (∀ w, Calls Tryd.prog 35 #[.string (s.extract 0 4)] w fun r w' => r = .returned (.int .i64 (pY s.data.toList)) ∧ w = w') := number_mid s hb 0 4 (by omega) (by omega) (by omega)
    have H2 : Hid (∀ w, Calls Tryd.prog 35 #[.string (s.extract 5 7)] w fun r w' => r = .returned (.int .i64 (pM s.data.toList)) ∧ w = w') := number_mid s hb 5 7 (by omega) (by omega) (by omega)
    have H3 : Hid (∀ w, Calls Tryd.prog 35 #[.string (s.extract 8 s.size)] w fun r w' => r = .returned (.int .i64 (pD s.data.toList)) ∧ w = w') := by
      intro w
      have h3 := number_mid s hb 8 10 (by omega) (by omega) (by omega) w
      rw [List.take_of_length_le (by rw [List.length_drop, ← Lib.size_eq]; omega)] at h3
      rw [hl]
      exact h3
    rw [hb] at HF
    have HO := Lib.hid (fun w1 h => of_any (pY s.data.toList) (pM s.data.toList) (pD s.data.toList) w1 h)
    have HV := Lib.hid hv
    have hge : 10 ≤ s.size := by omega
    have hle : s.size ≤ 10 := by omega
    have HL := Lib.hid hl
    clear hb hv hl
    go_enter Tryd.func17, Tryd.ntmps17
    go_wp2_with (go_at_call 34; ((with_reducible refine HF.out.mono ?_); rintro e w1 ⟨rfl, hb⟩))
    have HB := Lib.hid hb
    have HO2 := Lib.hid fun w2 (h : Below w1.heap.size w1 w2) => HO.out w2 ((HV.out.below HB.out).below h)
    clear hb HO
    have Q1 := Lib.hid fun n => quiet_of (H1.out (w1.drewN n))
    have Q2 := Lib.hid fun n => quiet_of (H2.out (w1.drewN n))
    have Q3 := Lib.hid fun n => quiet_of (H3.out (w1.drewN n))
    have Q4 := Lib.hid fun n => quiet_of (HO2.out (w1.drewN n) (below_drewN (Below.refl _ _) _))
    clear H1 H2 H3 HO2
    go_quiet ((first
      | (go_at_call 35; with_reducible exact Q1.out _)
      | (go_at_call 35; with_reducible exact Q2.out _)
      | (go_at_call 35; with_reducible exact Q3.out _)
      | (go_at_call 13; with_reducible exact Q4.out _)))
    go_wp2
    go_ret2
    exact ⟨rfl, below_drewN HB.out _⟩
end Go.Proofs.YteigcgncbkjmaaaDoor

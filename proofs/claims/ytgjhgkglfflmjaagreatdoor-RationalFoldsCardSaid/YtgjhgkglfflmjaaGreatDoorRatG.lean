/- The walks of layer 2: Parts; of its reference: Slash, written. -/
import Derived.Test.YtgjhgkglfflmjaaGreatDoorRatF
namespace Go.Proofs.YtgjhgkglfflmjaaGreatDoor
open Go Go.RowKit

set_option maxRecDepth 100000 in
set_option maxHeartbeats 800000 in
theorem parts_any (s : ByteArray) (hs : s.size ≤ 1048576) (w : World) (hv : VarR w) :
    Calls Tryz.prog 37 #[.string s] w fun e w' => e = .returned (.tuple #[.string ⟨(parS s.data.toList).1.toArray⟩, .string ⟨(parS s.data.toList).2.toArray⟩, .int .i64 (chkR s.data.toList)]) ∧ Below w.heap.size w w' := by
  have HP := Lib.hid (parse_rat s hs w hv)
  generalize (⟨(parS s.data.toList).1.toArray⟩ : ByteArray) = N at *
  generalize (⟨(parS s.data.toList).2.toArray⟩ : ByteArray) = D at *
  generalize chkR s.data.toList = c at *
  clear hv hs
  go_enter Tryz.func37, Tryz.ntmps37
  go_wp2_with (go_at_call 38; refine HP.out.mono ?_; rintro e w1 ⟨rfl, b1⟩)
  have hb2 : Below w.heap.size w (w1.alloc (.cells #[.string N, .string D] 60)) := b1.alloc b1.size _
  obtain ⟨k1, k2, k3, k4⟩ := row2 (heap_alloc_new w1 (.cells #[.string N, .string D] 60))
  generalize w1.alloc (.cells #[.string N, .string D] 60) = w2 at *
  go_quiet (fail)
  go_wp2
  go_ret3
  exact ⟨rfl, below_drewN hb2 _⟩

set_option maxHeartbeats 400000 in
theorem slash_any (s : ByteArray) (hs : s.size ≤ 1048576) (w : World) :
    Calls Tryz.prog 63 #[.string s] w fun e w' => e = .returned (.int .i64 (slS s.data.toList)) ∧ w = w' := by
  go_enter Tryz.func63, Tryz.ntmps63
  go_wp2
  go_loop [3] (fun i => ∃ k : Nat, k ≤ s.size ∧ i = .int .i64 k ∧ Hid (∀ c ∈ s.data.toList.take k, c ≠ 47)) (fun i => s.size - (intOf i).toNat)
  case atStart => exact ⟨0, Nat.zero_le _, rfl, by intro c hc; simp at hc⟩
  case round =>
    obtain ⟨k, hk, rfl, hinv⟩ := hrel
    by_cases hlt : k < s.size
    · have hlt' : k < s.data.toList.length := by rw [← Lib.size_eq]; exact hlt
      have hg : s.data.toList[k]? = some s[k] := by rw [List.getElem?_eq_getElem hlt']; rfl
      by_cases h47 : s[k] = 47
      · have HS : Hid (slS s.data.toList = (k : Int)) := by
          show _ = _
          unfold slS
          rw [spl_at _ k hinv.out (by rw [hg, h47])]
          simp
          omega
        have hc : ((s[k].toNat : Int) == 47) = true := by rw [h47]; rfl
        clear hinv hg h47
        go_wp2
        go_ret
        exact ⟨ret_int HS.out.symm, rfl⟩
      · have HI : Hid (∀ c ∈ s.data.toList.take (k + 1), c ≠ 47) := by
          intro c hc
          rw [List.take_add_one, hg] at hc
          rcases List.mem_append.1 hc with h | h
          · exact hinv.out c h
          · have : c = s[k] := by simpa using h
            rw [this]; exact h47
        have hc : ((s[k].toNat : Int) == 47) = false := beq_of 47 s[k] false (by rw [beq_eq_false_iff_ne]; exact h47) (by omega)
        clear hinv hg h47
        go_wp2
        go_round
        case rel => exact ⟨k + 1, by omega, by go_num, HI⟩
        case measure => simp [intOf]; omega
    · obtain rfl : k = s.size := by omega
      have HS : Hid (slS s.data.toList = -1) := by
        have h := hinv.out
        rw [List.take_of_length_le (by rw [← Lib.size_eq]; exact Nat.le_refl _)] at h
        show _ = _
        unfold slS
        rw [spl_none _ h]
      clear hinv
      go_wp2
      go_ret
      exact ⟨ret_int HS.out.symm, rfl⟩

theorem ext_take (s : ByteArray) (n : Nat) (a : List UInt8) (h : s.data.toList.take n = a) : s.extract 0 n = ⟨a.toArray⟩ := by
  subst h
  apply ByteArray.ext
  apply Array.ext'
  simp
theorem ext_drop (s : ByteArray) (n : Nat) (a : List UInt8) (h : s.data.toList.drop n = a) : s.extract n s.size = ⟨a.toArray⟩ := by
  subst h
  apply ByteArray.ext
  apply Array.ext'
  rw [Lib.extract_to_end]
theorem ret_ba2 {a b c d : ByteArray} (h : a = b) (h2 : c = d) : Ending.returned (.tuple #[.string a, .string c]) = .returned (.tuple #[.string b, .string d]) := by rw [h, h2]

set_option maxRecDepth 100000 in
set_option maxHeartbeats 800000 in
theorem written_any (s : ByteArray) (hs : s.size ≤ 1048576) (w : World) :
    Calls Tryz.prog 61 #[.string s] w fun e w' => e = .returned (.tuple #[.string ⟨(nB s.data.toList).toArray⟩, .string ⟨(dB s.data.toList).toArray⟩]) ∧ ∃ k, w' = w.drewN k := by
  have HS := slash_any s hs w
  cases h : spl s.data.toList with
  | none =>
    rw [show slS s.data.toList = -1 by unfold slS; rw [h]] at HS
    have HS := Lib.hid HS
    have e1 : nB s.data.toList = s.data.toList := by unfold nB; rw [h]
    have e2 : dB s.data.toList = [49] := by unfold dB; rw [h]
    rw [e1, e2]
    clear e1 e2 h
    go_enter Tryz.func61, Tryz.ntmps61
    go_wp2_with (go_at_call 63; refine HS.out.mono ?_; rintro e w1 ⟨rfl, rfl⟩)
    go_ret2
    exact ⟨rfl, 0, rfl⟩
  | some p =>
    obtain ⟨a, b⟩ := p
    obtain ⟨l1, l2, l3⟩ := spl_len h
    rw [show slS s.data.toList = (a.length : Int) by unfold slS; rw [h]] at HS
    have HS := Lib.hid HS
    have e1 : nB s.data.toList = a := by unfold nB; rw [h]
    have e2 : dB s.data.toList = b := by unfold dB; rw [h]
    rw [e1, e2]
    rw [← Lib.size_eq] at l1
    obtain ⟨n, hn⟩ : ∃ n, a.length = n := ⟨_, rfl⟩
    rw [hn] at l1 l2 l3 HS
    have L2 := Lib.hid l2
    have L3 := Lib.hid l3
    have g1 : (0 : Int) ≤ (n : Int) := by omega
    have g2 : (n : Int) ≤ (s.size : Int) := by omega
    have g3 : (n : Int) + 1 ≤ (s.size : Int) := by omega
    have g4 : (0 : Int) ≤ (n : Int) + 1 := by omega
    have w1 : IntKind.i64.wrap ((n : Int) + 1) = (n : Int) + 1 := by simp [IntKind.wrap, IntKind.bits, IntKind.signed]; omega
    have w2 : ((n : Int) + 1).toNat = n + 1 := by omega
    clear e1 e2 h l1 l2 l3 hn
    go_enter Tryz.func61, Tryz.ntmps61
    go_wp2_with (go_at_call 63; refine HS.out.mono ?_; rintro e w1 ⟨rfl, rfl⟩)
    go_quiet (fail)
    go_wp2
    go_ret2
    exact ⟨ret_ba2 (ext_take s n a L2.out) (ext_drop s (n + 1) b L3.out), _, rfl⟩
end Go.Proofs.YtgjhgkglfflmjaaGreatDoor

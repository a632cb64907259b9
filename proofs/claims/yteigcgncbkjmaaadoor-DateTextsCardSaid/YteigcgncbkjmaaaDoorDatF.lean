/- Layer 3: the program's walks over texts. -/
import Derived.Test.YteigcgncbkjmaaaDoorDatC
import Derived.Test.YteigcgncbkjmaaaDoorDatT
import Derived.Test.YteigcgncbkjmaaaDoorDatV
namespace Go.Proofs.YteigcgncbkjmaaaDoor
open Go Go.RowKit

set_option maxHeartbeats 400000 in
theorem isDigit_any (c : UInt8) (w : World) :
    Calls Tryd.prog 42 #[.int .u8 (c.toNat : Int)] w fun e w' => e = .returned (.bool (dgB c)) ∧ w = w' := by
  have hiff := dgB_iff c
  generalize (c.toNat : Int) = z at *
  by_cases h0 : 48 ≤ z
  · by_cases h1 : z ≤ 57
    · rw [hiff.2 ⟨h0, h1⟩]
      clear hiff
      go_enter Tryd.func42, Tryd.ntmps42
      go_wp2
      go_ret
      exact ⟨rfl, rfl⟩
    · have e : dgB c = false := by rw [Bool.eq_false_iff]; intro g; exact h1 (hiff.1 g).2
      rw [e]
      have hd : decide (z ≤ 57) = false := decide_eq_false h1
      clear hiff e h1
      go_enter Tryd.func42, Tryd.ntmps42
      go_wp2
      go_ret
      exact ⟨rfl, rfl⟩
  · have e : dgB c = false := by rw [Bool.eq_false_iff]; intro g; exact h0 (hiff.1 g).1
    rw [e]
    have hd : decide (48 ≤ z) = false := decide_eq_false h0
    have hlt : z < 48 := by omega
    clear hiff e h0
    go_enter Tryd.func42, Tryd.ntmps42
    go_wp2
    go_ret
    exact ⟨rfl, rfl⟩

theorem ne45 (c : UInt8) : ((c.toNat : Int) != 45) = !decide (c = 45) := by
  refine congrArg not ?_
  rw [Bool.eq_iff_iff, beq_iff_eq, decide_eq_true_iff, ← UInt8.toNat_inj]
  exact ⟨fun h => by show c.toNat = 45; omega, fun h => by have : c.toNat = 45 := h; omega⟩
theorem getElem_toList (s : ByteArray) (k : Nat) (h : k < s.size) : s.data.toList[k]? = some s[k] := by
  rw [List.getElem?_eq_getElem (by simpa using h)]; rfl
theorem getD_toList (s : ByteArray) (k : Nat) (h : k < s.size) : s.data.toList.getD k 0 = s[k] := by
  rw [List.getD_eq_getElem?_getD, getElem_toList s k h]; rfl

set_option maxRecDepth 100000 in
set_option maxHeartbeats 3200000 in
theorem hasForm_any (s : ByteArray) (w : World) :
    Calls Tryd.prog 34 #[.string s] w fun e w' => e = .returned (.bool (fmB s.data.toList)) ∧ ∃ n, w' = w.drewN n := by
  have hl : s.data.toList.length = s.size := (Lib.size_eq s).symm
  by_cases h10 : s.size = 10
  · have HF : Hid (fmB s.data.toList = fmK s.data.toList 10) := by
      show _ = _
      unfold fmB; rw [hl, h10]; rfl
    have HS := Lib.hid h10
    have hle : s.size ≤ 10 := by omega
    have hge : 10 ≤ s.size := by omega
    have hb : ((s.size : Int) == 10) = true := by rw [beq_iff_eq]; omega
    have hb2 : ((s.size : Int) != 10) = false := by rw [bne, hb]; rfl
    clear hl h10
    go_enter Tryd.func34, Tryd.ntmps34
    go_wp2
    go_loopw [7] (fun i wr => ∃ k n : Nat, k ≤ 10 ∧ i = .int .i64 k ∧ Hid (fmK s.data.toList k = true) ∧ Hid (wr = w.drewN n)) (fun i _ => 10 - (intOf i).toNat)
    case atStart => exact ⟨0, 0, by omega, rfl, rfl, rfl⟩
    case round =>
      obtain ⟨k, n, hk, rfl, hf, hwr⟩ := hrel
      by_cases hlt : k < 10
      · obtain ⟨c, hc⟩ : ∃ c, s.data.toList.getD k 0 = c := ⟨_, rfl⟩
        have HK : Hid (fmK s.data.toList (k + 1) = atB k c) := by
          show _ = _
          have h1 := hf.out
          simp only [fmK, h1, Bool.true_and, hc]
        have HX : Hid (atB k c = false → fmK s.data.toList 10 = false) := fun h => fmK_bad _ k hlt (by rw [hc]; exact h)
        have hcs : s[k] = c := by rw [← hc, getD_toList]
        obtain ⟨z, hz⟩ : ∃ z : Int, z = (k : Int) := ⟨_, rfl⟩
        rw [← hz]
        have hcase : (z = 0 ∧ k = 0) ∨ (z = 1 ∧ k = 1) ∨ (z = 2 ∧ k = 2) ∨ (z = 3 ∧ k = 3) ∨ (z = 4 ∧ k = 4) ∨ (z = 5 ∧ k = 5) ∨ (z = 6 ∧ k = 6) ∨ (z = 7 ∧ k = 7) ∨ (z = 8 ∧ k = 8) ∨ (z = 9 ∧ k = 9) := by omega
        have HD := Lib.hid (isDigit_any c)
        clear hf hz hc
        rcases hcase with ⟨rfl, rfl⟩ | ⟨rfl, rfl⟩ | ⟨rfl, rfl⟩ | ⟨rfl, rfl⟩ | ⟨rfl, rfl⟩ | ⟨rfl, rfl⟩ | ⟨rfl, rfl⟩ | ⟨rfl, rfl⟩ | ⟨rfl, rfl⟩ | ⟨rfl, rfl⟩
        · have hf0 : (((⟨#[48, 48, 48, 48, 45, 48, 48, 45, 48, 48]⟩ : ByteArray)[0].toNat : Nat) : Int) = 48 := rfl
          have HA := Lib.hid (show atB 0 c = dgB c from rfl)
          generalize dgB c = b at *
          cases b
          · go_wp2
            go_quiet ((go_at_call 42; exact Calls.quiet_of_same ((HD.out _).mono fun _ _ h => ⟨h.1, h.2.symm⟩)))
            have hwr2 : Hid (wr.drewN nq = w.drewN (n + nq)) := by show _ = _; rw [hwr.out, World.drewN_drewN]
            clear hwr
            generalize wr.drewN nq = wq at *
            have HZ := Lib.hid (HX.out HA.out)
            clear HA HK HX hf0 hcs
            go_wp2
            go_ret
            exact ⟨ret_bool (by rw [HF.out, HZ.out]), n + nq, hwr2.out⟩
          · go_wp2
            go_quiet ((go_at_call 42; exact Calls.quiet_of_same ((HD.out _).mono fun _ _ h => ⟨h.1, h.2.symm⟩)))
            have hwr2 : Hid (wr.drewN nq = w.drewN (n + nq)) := by show _ = _; rw [hwr.out, World.drewN_drewN]
            clear hwr
            generalize wr.drewN nq = wq at *
            have HZ := Lib.hid (HK.out.trans HA.out)
            clear HA HK HX hf0 hcs
            go_wp2
            go_roundw
            case rel => exact ⟨1, n + nq, by omega, rfl, HZ.out, hwr2⟩
            case measure => simp [intOf]
        · have hf0 : (((⟨#[48, 48, 48, 48, 45, 48, 48, 45, 48, 48]⟩ : ByteArray)[1].toNat : Nat) : Int) = 48 := rfl
          have HA := Lib.hid (show atB 1 c = dgB c from rfl)
          generalize dgB c = b at *
          cases b
          · go_wp2
            go_quiet ((go_at_call 42; exact Calls.quiet_of_same ((HD.out _).mono fun _ _ h => ⟨h.1, h.2.symm⟩)))
            have hwr2 : Hid (wr.drewN nq = w.drewN (n + nq)) := by show _ = _; rw [hwr.out, World.drewN_drewN]
            clear hwr
            generalize wr.drewN nq = wq at *
            have HZ := Lib.hid (HX.out HA.out)
            clear HA HK HX hf0 hcs
            go_wp2
            go_ret
            exact ⟨ret_bool (by rw [HF.out, HZ.out]), n + nq, hwr2.out⟩
          · go_wp2
            go_quiet ((go_at_call 42; exact Calls.quiet_of_same ((HD.out _).mono fun _ _ h => ⟨h.1, h.2.symm⟩)))
            have hwr2 : Hid (wr.drewN nq = w.drewN (n + nq)) := by show _ = _; rw [hwr.out, World.drewN_drewN]
            clear hwr
            generalize wr.drewN nq = wq at *
            have HZ := Lib.hid (HK.out.trans HA.out)
            clear HA HK HX hf0 hcs
            go_wp2
            go_roundw
            case rel => exact ⟨2, n + nq, by omega, rfl, HZ.out, hwr2⟩
            case measure => simp [intOf]
        · have hf0 : (((⟨#[48, 48, 48, 48, 45, 48, 48, 45, 48, 48]⟩ : ByteArray)[2].toNat : Nat) : Int) = 48 := rfl
          have HA := Lib.hid (show atB 2 c = dgB c from rfl)
          generalize dgB c = b at *
          cases b
          · go_wp2
            go_quiet ((go_at_call 42; exact Calls.quiet_of_same ((HD.out _).mono fun _ _ h => ⟨h.1, h.2.symm⟩)))
            have hwr2 : Hid (wr.drewN nq = w.drewN (n + nq)) := by show _ = _; rw [hwr.out, World.drewN_drewN]
            clear hwr
            generalize wr.drewN nq = wq at *
            have HZ := Lib.hid (HX.out HA.out)
            clear HA HK HX hf0 hcs
            go_wp2
            go_ret
            exact ⟨ret_bool (by rw [HF.out, HZ.out]), n + nq, hwr2.out⟩
          · go_wp2
            go_quiet ((go_at_call 42; exact Calls.quiet_of_same ((HD.out _).mono fun _ _ h => ⟨h.1, h.2.symm⟩)))
            have hwr2 : Hid (wr.drewN nq = w.drewN (n + nq)) := by show _ = _; rw [hwr.out, World.drewN_drewN]
            clear hwr
            generalize wr.drewN nq = wq at *
            have HZ := Lib.hid (HK.out.trans HA.out)
            clear HA HK HX hf0 hcs
            go_wp2
            go_roundw
            case rel => exact ⟨3, n + nq, by omega, rfl, HZ.out, hwr2⟩
            case measure => simp [intOf]
        · have hf0 : (((⟨#[48, 48, 48, 48, 45, 48, 48, 45, 48, 48]⟩ : ByteArray)[3].toNat : Nat) : Int) = 48 := rfl
          have HA := Lib.hid (show atB 3 c = dgB c from rfl)
          generalize dgB c = b at *
          cases b
          · go_wp2
            go_quiet ((go_at_call 42; exact Calls.quiet_of_same ((HD.out _).mono fun _ _ h => ⟨h.1, h.2.symm⟩)))
            have hwr2 : Hid (wr.drewN nq = w.drewN (n + nq)) := by show _ = _; rw [hwr.out, World.drewN_drewN]
            clear hwr
            generalize wr.drewN nq = wq at *
            have HZ := Lib.hid (HX.out HA.out)
            clear HA HK HX hf0 hcs
            go_wp2
            go_ret
            exact ⟨ret_bool (by rw [HF.out, HZ.out]), n + nq, hwr2.out⟩
          · go_wp2
            go_quiet ((go_at_call 42; exact Calls.quiet_of_same ((HD.out _).mono fun _ _ h => ⟨h.1, h.2.symm⟩)))
            have hwr2 : Hid (wr.drewN nq = w.drewN (n + nq)) := by show _ = _; rw [hwr.out, World.drewN_drewN]
            clear hwr
            generalize wr.drewN nq = wq at *
            have HZ := Lib.hid (HK.out.trans HA.out)
            clear HA HK HX hf0 hcs
            go_wp2
            go_roundw
            case rel => exact ⟨4, n + nq, by omega, rfl, HZ.out, hwr2⟩
            case measure => simp [intOf]
        · have hf0 : (((⟨#[48, 48, 48, 48, 45, 48, 48, 45, 48, 48]⟩ : ByteArray)[4].toNat : Nat) : Int) = 45 := rfl
          clear HD
          have HA := Lib.hid (show atB 4 c = decide (c = 45) from rfl)
          have hne := ne45 c
          generalize decide (c = 45) = b at *
          cases b
          · simp only [Bool.not_false] at hne
            go_wp2
            go_quiet (fail)
            have hwr2 : Hid (wr.drewN nq = w.drewN (n + nq)) := by show _ = _; rw [hwr.out, World.drewN_drewN]
            clear hwr
            generalize wr.drewN nq = wq at *
            have HZ := Lib.hid (HX.out HA.out)
            clear HA HK HX hf0 hcs hne
            go_wp2
            go_ret
            exact ⟨ret_bool (by rw [HF.out, HZ.out]), n + nq, hwr2.out⟩
          · simp only [Bool.not_true] at hne
            go_wp2
            go_quiet (fail)
            have hwr2 : Hid (wr.drewN nq = w.drewN (n + nq)) := by show _ = _; rw [hwr.out, World.drewN_drewN]
            clear hwr
            generalize wr.drewN nq = wq at *
            have HZ := Lib.hid (HK.out.trans HA.out)
            clear HA HK HX hf0 hcs hne
            go_wp2
            go_roundw
            case rel => exact ⟨5, n + nq, by omega, rfl, HZ.out, hwr2⟩
            case measure => simp [intOf]
        · have hf0 : (((⟨#[48, 48, 48, 48, 45, 48, 48, 45, 48, 48]⟩ : ByteArray)[5].toNat : Nat) : Int) = 48 := rfl
          have HA := Lib.hid (show atB 5 c = dgB c from rfl)
          generalize dgB c = b at *
          cases b
          · go_wp2
            go_quiet ((go_at_call 42; exact Calls.quiet_of_same ((HD.out _).mono fun _ _ h => ⟨h.1, h.2.symm⟩)))
            have hwr2 : Hid (wr.drewN nq = w.drewN (n + nq)) := by show _ = _; rw [hwr.out, World.drewN_drewN]
            clear hwr
            generalize wr.drewN nq = wq at *
            have HZ := Lib.hid (HX.out HA.out)
            clear HA HK HX hf0 hcs
            go_wp2
            go_ret
            exact ⟨ret_bool (by rw [HF.out, HZ.out]), n + nq, hwr2.out⟩
          · go_wp2
            go_quiet ((go_at_call 42; exact Calls.quiet_of_same ((HD.out _).mono fun _ _ h => ⟨h.1, h.2.symm⟩)))
            have hwr2 : Hid (wr.drewN nq = w.drewN (n + nq)) := by show _ = _; rw [hwr.out, World.drewN_drewN]
            clear hwr
            generalize wr.drewN nq = wq at *
            have HZ := Lib.hid (HK.out.trans HA.out)
            clear HA HK HX hf0 hcs
            go_wp2
            go_roundw
            case rel => exact ⟨6, n + nq, by omega, rfl, HZ.out, hwr2⟩
            case measure => simp [intOf]
        · have hf0 : (((⟨#[48, 48, 48, 48, 45, 48, 48, 45, 48, 48]⟩ : ByteArray)[6].toNat : Nat) : Int) = 48 := rfl
          have HA := Lib.hid (show atB 6 c = dgB c from rfl)
          generalize dgB c = b at *
          cases b
          · go_wp2
            go_quiet ((go_at_call 42; exact Calls.quiet_of_same ((HD.out _).mono fun _ _ h => ⟨h.1, h.2.symm⟩)))
            have hwr2 : Hid (wr.drewN nq = w.drewN (n + nq)) := by show _ = _; rw [hwr.out, World.drewN_drewN]
            clear hwr
            generalize wr.drewN nq = wq at *
            have HZ := Lib.hid (HX.out HA.out)
            clear HA HK HX hf0 hcs
            go_wp2
            go_ret
            exact ⟨ret_bool (by rw [HF.out, HZ.out]), n + nq, hwr2.out⟩
          · go_wp2
            go_quiet ((go_at_call 42; exact Calls.quiet_of_same ((HD.out _).mono fun _ _ h => ⟨h.1, h.2.symm⟩)))
            have hwr2 : Hid (wr.drewN nq = w.drewN (n + nq)) := by show _ = _; rw [hwr.out, World.drewN_drewN]
            clear hwr
            generalize wr.drewN nq = wq at *
            have HZ := Lib.hid (HK.out.trans HA.out)
            clear HA HK HX hf0 hcs
            go_wp2
            go_roundw
            case rel => exact ⟨7, n + nq, by omega, rfl, HZ.out, hwr2⟩
            case measure => simp [intOf]
        · have hf0 : (((⟨#[48, 48, 48, 48, 45, 48, 48, 45, 48, 48]⟩ : ByteArray)[7].toNat : Nat) : Int) = 45 := rfl
          clear HD
          have HA := Lib.hid (show atB 7 c = decide (c = 45) from rfl)
          have hne := ne45 c
          generalize decide (c = 45) = b at *
          cases b
          · simp only [Bool.not_false] at hne
            go_wp2
            go_quiet (fail)
            have hwr2 : Hid (wr.drewN nq = w.drewN (n + nq)) := by show _ = _; rw [hwr.out, World.drewN_drewN]
            clear hwr
            generalize wr.drewN nq = wq at *
            have HZ := Lib.hid (HX.out HA.out)
            clear HA HK HX hf0 hcs hne
            go_wp2
            go_ret
            exact ⟨ret_bool (by rw [HF.out, HZ.out]), n + nq, hwr2.out⟩
          · simp only [Bool.not_true] at hne
            go_wp2
            go_quiet (fail)
            have hwr2 : Hid (wr.drewN nq = w.drewN (n + nq)) := by show _ = _; rw [hwr.out, World.drewN_drewN]
            clear hwr
            generalize wr.drewN nq = wq at *
            have HZ := Lib.hid (HK.out.trans HA.out)
            clear HA HK HX hf0 hcs hne
            go_wp2
            go_roundw
            case rel => exact ⟨8, n + nq, by omega, rfl, HZ.out, hwr2⟩
            case measure => simp [intOf]
        · have hf0 : (((⟨#[48, 48, 48, 48, 45, 48, 48, 45, 48, 48]⟩ : ByteArray)[8].toNat : Nat) : Int) = 48 := rfl
          have HA := Lib.hid (show atB 8 c = dgB c from rfl)
          generalize dgB c = b at *
          cases b
          · go_wp2
            go_quiet ((go_at_call 42; exact Calls.quiet_of_same ((HD.out _).mono fun _ _ h => ⟨h.1, h.2.symm⟩)))
            have hwr2 : Hid (wr.drewN nq = w.drewN (n + nq)) := by show _ = _; rw [hwr.out, World.drewN_drewN]
            clear hwr
            generalize wr.drewN nq = wq at *
            have HZ := Lib.hid (HX.out HA.out)
            clear HA HK HX hf0 hcs
            go_wp2
            go_ret
            exact ⟨ret_bool (by rw [HF.out, HZ.out]), n + nq, hwr2.out⟩
          · go_wp2
            go_quiet ((go_at_call 42; exact Calls.quiet_of_same ((HD.out _).mono fun _ _ h => ⟨h.1, h.2.symm⟩)))
            have hwr2 : Hid (wr.drewN nq = w.drewN (n + nq)) := by show _ = _; rw [hwr.out, World.drewN_drewN]
            clear hwr
            generalize wr.drewN nq = wq at *
            have HZ := Lib.hid (HK.out.trans HA.out)
            clear HA HK HX hf0 hcs
            go_wp2
            go_roundw
            case rel => exact ⟨9, n + nq, by omega, rfl, HZ.out, hwr2⟩
            case measure => simp [intOf]
        · have hf0 : (((⟨#[48, 48, 48, 48, 45, 48, 48, 45, 48, 48]⟩ : ByteArray)[9].toNat : Nat) : Int) = 48 := rfl
          have HA := Lib.hid (show atB 9 c = dgB c from rfl)
          generalize dgB c = b at *
          cases b
          · go_wp2
            go_quiet ((go_at_call 42; exact Calls.quiet_of_same ((HD.out _).mono fun _ _ h => ⟨h.1, h.2.symm⟩)))
            have hwr2 : Hid (wr.drewN nq = w.drewN (n + nq)) := by show _ = _; rw [hwr.out, World.drewN_drewN]
            clear hwr
            generalize wr.drewN nq = wq at *
            have HZ := Lib.hid (HX.out HA.out)
            clear HA HK HX hf0 hcs
            go_wp2
            go_ret
            exact ⟨ret_bool (by rw [HF.out, HZ.out]), n + nq, hwr2.out⟩
          · go_wp2
            go_quiet ((go_at_call 42; exact Calls.quiet_of_same ((HD.out _).mono fun _ _ h => ⟨h.1, h.2.symm⟩)))
            have hwr2 : Hid (wr.drewN nq = w.drewN (n + nq)) := by show _ = _; rw [hwr.out, World.drewN_drewN]
            clear hwr
            generalize wr.drewN nq = wq at *
            have HZ := Lib.hid (HK.out.trans HA.out)
            clear HA HK HX hf0 hcs
            go_wp2
            go_roundw
            case rel => exact ⟨10, n + nq, by omega, rfl, HZ.out, hwr2⟩
            case measure => simp [intOf]
      · obtain rfl : k = 10 := by omega
        have HZ := Lib.hid (HF.out.trans hf.out)
        go_wp2
        go_ret
        exact ⟨ret_bool HZ.out.symm, n, hwr.out⟩
  · have HF : Hid (fmB s.data.toList = false) := by
      show _ = _
      unfold fmB; rw [hl, decide_eq_false h10]; rfl
    have hb : ((s.size : Int) == 10) = false := by rw [beq_eq_false_iff_ne]; omega
    have hb2 : ((s.size : Int) != 10) = true := by rw [bne, hb]; rfl
    clear hl h10
    go_enter Tryd.func34, Tryd.ntmps34
    go_wp2
    go_ret
    exact ⟨ret_bool HF.out.symm, 0, rfl⟩
end Go.Proofs.YteigcgncbkjmaaaDoor

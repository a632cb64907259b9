/- The walks of layer 1: leaves over texts. -/
import Derived.Test.YtlipjedofegciaaDoorRows
import Derived.Test.YtlipjedofegciaaDoorIntMath
import Derived.Test.YtlipjedofegciaaDoorIntW
import Derived.WalkKit
import Derived.WalkSpells
import Derived.WalkLawsBesides
import Derived.Lib.Hide
import Derived.Test.YtlipjedofegciaaDoorShelf

namespace Go.Proofs.YtlipjedofegciaaDoor
open Go Go.RowKit


set_option maxHeartbeats 400000 in
theorem onlyDigits_any (s : ByteArray) (w : World) (hs : s.size ≤ maxLen) :
    Calls Tryd.prog 44 #[.string s] w fun e w' => e = .returned (.bool (odB s.data.toList)) ∧ w = w' := by
  unfold maxLen at hs
  go_enter Tryd.func44, Tryd.ntmps44
  go_wp2
  go_loop [3, 6] (fun j i => ∃ k : Nat, k ≤ s.size ∧ i = .int .i64 k ∧ odB (s.data.toList.take k) = true) (fun _ i => s.size - (intOf i).toNat)
  case atStart => exact ⟨0, Nat.zero_le _, rfl, rfl⟩
  case round =>
    obtain ⟨k, hk, rfl, hall⟩ := hrel
    by_cases hlt : k < s.size
    · by_cases hd : 48 ≤ (s[k].toNat : Int) ∧ (s[k].toNat : Int) ≤ 57
      · have H := Lib.hid (odB_succ s k hlt hall hd)
        clear hall
        obtain ⟨hd1, hd2⟩ := hd
        go_wp2
        go_round
        case rel => exact ⟨k + 1, by omega, by go_num, H.out⟩
        case measure => simp [intOf]; omega
      · have H := Lib.hid (odB_false s k hlt hd)
        clear hall
        go_wp2
        all_goals
          go_ret
          exact ⟨ret_bool H.out.symm, rfl⟩
    · obtain rfl : k = s.size := by omega
      have H := Lib.hid (odB_all s hall)
      clear hall
      go_wp2
      go_ret
      exact ⟨ret_bool H.out.symm, rfl⟩

theorem isEmpty_toList (s : ByteArray) (h : s.size = 0) : s.toList = [] := by
  rw [Lib.toList_data]; exact List.eq_nil_of_length_eq_zero (by simpa using h)
theorem isEmpty_toList' (s : ByteArray) (h : 0 < s.size) : s.toList.isEmpty = false := by
  rw [Lib.toList_data, List.isEmpty_eq_false_iff]
  intro e
  have h1 := congrArg List.length e
  have h2 : s.data.toList.length = s.size := (Lib.size_eq s).symm
  simp only [List.length_nil] at h1
  omega
set_option maxHeartbeats 400000 in
theorem startsAboveZero_any (s : ByteArray) (w : World) :
    Calls Tryd.prog 43 #[.string s] w fun e w' => e = .returned (.bool (szB s.data.toList)) ∧ w = w' := by
  by_cases h0 : s.size = 0
  · have H := Lib.hid (szB_nil s h0)
    have hn := isEmpty_toList s h0
    clear h0
    go_enter Tryd.func43, Tryd.ntmps43
    go_wp2
    go_ret
    exact ⟨ret_bool H.out.symm, rfl⟩
  · have h1 : 0 < s.size := by omega
    have H := Lib.hid (szB_cons s h1)
    have hne := isEmpty_toList' s h1
    clear h0
    go_enter Tryd.func43, Tryd.ntmps43
    have hd : ¬ (49 : Int) ≤ (s[0].toNat : Int) → Hid (decide ((49 : Int) ≤ (s[0].toNat : Int)) = false) := fun h => decide_eq_false h
    by_cases h2 : (49 : Int) ≤ (s[0].toNat : Int)
    · clear hd
      have hd' : Hid (decide ((49 : Int) ≤ (s[0].toNat : Int)) = true) := decide_eq_true h2
      go_wp2
      go_ret
      exact ⟨ret_bool (by rw [H.out, hd'.out]; rfl), rfl⟩
    · have hd' := hd h2
      clear hd
      go_wp2
      go_ret
      exact ⟨ret_bool (by rw [H.out, hd'.out]; rfl), rfl⟩

theorem eq_of_toList {s : ByteArray} {l : List UInt8} (h : s.data.toList = l) : s = ⟨l.toArray⟩ := by
  rw [← h]

theorem trim_minus (s : ByteArray) (b : List UInt8) (hb : bod s.data.toList = b) (w : World) :
    Calls Tryd.prog 42 #[.string s, .string ⟨#[45]⟩] w fun e w' => e = .returned (.string ⟨b.toArray⟩) ∧ w = w' := by
  subst hb
  exact (Tryd.strings_TrimPrefix s ⟨#[45]⟩ w).mono fun _ _ h => ⟨h.1, h.2.symm⟩
theorem onlyDigits_of (b : List UInt8) (r : Bool) (hr : odB b = r) (w : World) (hs : b.length ≤ maxLen) :
    Calls Tryd.prog 44 #[.string ⟨b.toArray⟩] w fun e w' => e = .returned (.bool r) ∧ w = w' := by
  subst hr; exact onlyDigits_any ⟨b.toArray⟩ w hs
theorem startsAboveZero_of (b : List UInt8) (r : Bool) (hr : szB b = r) (w : World) :
    Calls Tryd.prog 43 #[.string ⟨b.toArray⟩] w fun e w' => e = .returned (.bool r) ∧ w = w' := by
  subst hr; exact startsAboveZero_any ⟨b.toArray⟩ w

set_option maxHeartbeats 400000 in
theorem check_any (s : ByteArray) (w : World) (hs : s.size ≤ maxLen) :
    Calls Tryd.prog 12 #[.string s] w fun e w' => e = .returned (.int .i64 (chk s.data.toList)) ∧ w = w' := by
  have hb := bod_length s.data.toList
  rw [← Lib.size_eq] at hb
  obtain ⟨b, hbb⟩ : ∃ b, bod s.data.toList = b := ⟨_, rfl⟩
  rw [hbb] at hb
  have HC : Hid (chk s.data.toList = if s.data.toList = [48] then 0 else if szB b && odB b then (if 1000 < b.length then 14 else 0) else 12) := by rw [← hbb]; rfl
  have HT := Lib.hid (trim_minus s b hbb)
  unfold maxLen at hs
  clear hbb
  obtain ⟨z, hz⟩ : ∃ z, szB b = z := ⟨_, rfl⟩
  obtain ⟨o, ho⟩ : ∃ o, odB b = o := ⟨_, rfl⟩
  have HZ := Lib.hid (startsAboveZero_of b z hz)
  have HO := Lib.hid (fun W => onlyDigits_of b o ho W (by unfold maxLen; omega))
  rw [hz, ho] at HC
  clear hz ho
  by_cases h0 : s.data.toList = [48]
  · have e0 : (s.toList == [48]) = true := by rw [Lib.toList_data, h0]; rfl
    have HC' : Hid (chk s.data.toList = 0) := by rw [HC.out, if_pos h0]; rfl
    clear HC h0
    go_enter Tryd.func12, Tryd.ntmps12
    go_wp2_with (go_at_call 42; refine (HT.out _).mono ?_; rintro e w' ⟨rfl, rfl⟩)
    go_ret
    exact ⟨ret_int HC'.out.symm, rfl⟩
  · have e0 : (s.toList == [48]) = false := by rw [Lib.toList_data, beq_eq_false_iff_ne]; exact h0
    have HC' : Hid (chk s.data.toList = if z && o then (if 1000 < b.length then 14 else 0) else 12) := by rw [HC.out, if_neg h0]; rfl
    clear HC h0
    cases z <;> cases o <;> by_cases hl : 1000 < b.length
    all_goals
      go_enter Tryd.func12, Tryd.ntmps12
      go_wp2_with (first | (go_at_call 42; refine (HT.out _).mono ?_; rintro e w' ⟨rfl, rfl⟩) | (go_at_call 43; refine (HZ.out _).mono ?_; rintro e w' ⟨rfl, rfl⟩) | (go_at_call 44; refine (HO.out _).mono ?_; rintro e w' ⟨rfl, rfl⟩))
      go_ret
      exact ⟨ret_int (by rw [HC'.out]; simp [hl]), rfl⟩
end Go.Proofs.YtlipjedofegciaaDoor

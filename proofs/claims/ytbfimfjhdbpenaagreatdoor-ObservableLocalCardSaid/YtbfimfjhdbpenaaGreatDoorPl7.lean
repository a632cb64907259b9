/- Joined: IntA, IntM, IntM2, IntM3, IntM4, IntB. -/
import Derived.Test.YtbfimfjhdbpenaaGreatDoorPl3
import Derived.Test.YtbfimfjhdbpenaaGreatDoorPl6
import Derived.Test.YtbfimfjhdbpenaaGreatDoorRows
import Derived.WalkKit
import Derived.WalkSpells
import Derived.WalkLawsBesides
import Derived.Lib.Hide
import Derived.Deep.QuietTactic
import Derived.BigQuiet
import Derived.BigRegion
import Derived.WalkSmall
/- The walks of layer 1: leaves over texts. -/
namespace Go.Proofs.YtbfimfjhdbpenaaGreatDoor
open Go Go.RowKit
set_option maxHeartbeats 400000 in
theorem onlyDigits_any (s : ByteArray) (w : World) (hs : s.size ≤ maxLen) :
    Calls Tryz.prog 157 #[.string s] w fun e w' => e = .returned (.bool (odB s.data.toList)) ∧ w = w' := by
  unfold maxLen at hs
  go_enter Tryz.func157, Tryz.ntmps157
  go_wp2
  go_loop [3, 6] (fun j i => ∃ k : Nat, k ≤ s.size ∧ i = .int .i64 k ∧ odB (s.data.toList.take k) = true) (fun _ i => s.size - (intOf i).toNat)
  case atStart => exact ⟨0, Nat.zero_le _, rfl, rfl⟩
  case round =>
    obtain ⟨k, hk, rfl, hall⟩ := hrel
    by_cases hlt : k < s.size
    · by_cases hd : 48 ≤ (s[k].toNat : Int) ∧ (s[k].toNat : Int) ≤ 57
      · have H := Lib.hid (odB_succ s k hlt hall hd)
        clear hall
        obtain ⟨hd1, hd2⟩ := hd
        go_wp2
        go_round
        case rel => exact ⟨k + 1, by omega, by go_num, H.out⟩
        case measure => simp [intOf]; omega
      · have H := Lib.hid (odB_false s k hlt hd)
        clear hall
        go_wp2
        all_goals
          go_ret
          exact ⟨ret_bool H.out.symm, rfl⟩
    · obtain rfl : k = s.size := by omega
      have H := Lib.hid (odB_all s hall)
      clear hall
      go_wp2
      go_ret
      exact ⟨ret_bool H.out.symm, rfl⟩
theorem isEmpty_toList (s : ByteArray) (h : s.size = 0) : s.toList = [] := by
  rw [Lib.toList_data]; exact List.eq_nil_of_length_eq_zero (by simpa using h)
theorem isEmpty_toList' (s : ByteArray) (h : 0 < s.size) : s.toList.isEmpty = false := by
  rw [Lib.toList_data, List.isEmpty_eq_false_iff]
  intro e
  have h1 := congrArg List.length e
  have h2 : s.data.toList.length = s.size := (Lib.size_eq s).symm
  simp only [List.length_nil] at h1
  omega
set_option maxHeartbeats 400000 in
theorem startsAboveZero_any (s : ByteArray) (w : World) :
    Calls Tryz.prog 156 #[.string s] w fun e w' => e = .returned (.bool (szB s.data.toList)) ∧ w = w' := by
  by_cases h0 : s.size = 0
  · have H := Lib.hid (szB_nil s h0)
    have hn := isEmpty_toList s h0
    clear h0
    go_enter Tryz.func156, Tryz.ntmps156
    go_wp2
    go_ret
    exact ⟨ret_bool H.out.symm, rfl⟩
  · have h1 : 0 < s.size := by omega
    have H := Lib.hid (szB_cons s h1)
    have hne := isEmpty_toList' s h1
    clear h0
    go_enter Tryz.func156, Tryz.ntmps156
    have hd : ¬ (49 : Int) ≤ (s[0].toNat : Int) → Hid (decide ((49 : Int) ≤ (s[0].toNat : Int)) = false) := fun h => decide_eq_false h
    by_cases h2 : (49 : Int) ≤ (s[0].toNat : Int)
    · clear hd
      have hd' : Hid (decide ((49 : Int) ≤ (s[0].toNat : Int)) = true) := decide_eq_true h2
      go_wp2
      go_ret
      exact ⟨ret_bool (by rw [H.out, hd'.out]; rfl), rfl⟩
    · have hd' := hd h2
      clear hd
      go_wp2
      go_ret
      exact ⟨ret_bool (by rw [H.out, hd'.out]; rfl), rfl⟩
theorem trim_minus (s : ByteArray) (b : List UInt8) (hb : bod s.data.toList = b) (w : World) :
    Calls Tryz.prog 155 #[.string s, .string ⟨#[45]⟩] w fun e w' => e = .returned (.string ⟨b.toArray⟩) ∧ w = w' := by
  subst hb
  exact (Tryz.strings_TrimPrefix s ⟨#[45]⟩ w).mono fun _ _ h => ⟨h.1, h.2.symm⟩
theorem onlyDigits_of (b : List UInt8) (r : Bool) (hr : odB b = r) (w : World) (hs : b.length ≤ maxLen) :
    Calls Tryz.prog 157 #[.string ⟨b.toArray⟩] w fun e w' => e = .returned (.bool r) ∧ w = w' := by
  subst hr; exact onlyDigits_any ⟨b.toArray⟩ w hs
theorem startsAboveZero_of (b : List UInt8) (r : Bool) (hr : szB b = r) (w : World) :
    Calls Tryz.prog 156 #[.string ⟨b.toArray⟩] w fun e w' => e = .returned (.bool r) ∧ w = w' := by
  subst hr; exact startsAboveZero_any ⟨b.toArray⟩ w
set_option maxHeartbeats 400000 in
theorem check_any (s : ByteArray) (w : World) (hs : s.size ≤ maxLen) :
    Calls Tryz.prog 118 #[.string s] w fun e w' => e = .returned (.int .i64 (chk s.data.toList)) ∧ w = w' := by
  have hb := bod_length s.data.toList
  rw [← Lib.size_eq] at hb
  obtain ⟨b, hbb⟩ : ∃ b, bod s.data.toList = b := ⟨_, rfl⟩
  rw [hbb] at hb
  have HC : Hid (chk s.data.toList = if s.data.toList = [48] then 0 else if szB b && odB b then (if 1000 < b.length then 14 else 0) else 12) := by rw [← hbb]; rfl
  have HT := Lib.hid (trim_minus s b hbb)
  unfold maxLen at hs
  clear hbb
  obtain ⟨z, hz⟩ : ∃ z, szB b = z := ⟨_, rfl⟩
  obtain ⟨o, ho⟩ : ∃ o, odB b = o := ⟨_, rfl⟩
  have HZ := Lib.hid (startsAboveZero_of b z hz)
  have HO := Lib.hid (fun W => onlyDigits_of b o ho W (by unfold maxLen; omega))
  rw [hz, ho] at HC
  clear hz ho
  by_cases h0 : s.data.toList = [48]
  · have e0 : (s.toList == [48]) = true := by rw [Lib.toList_data, h0]; rfl
    have HC' : Hid (chk s.data.toList = 0) := by rw [HC.out, if_pos h0]; rfl
    clear HC h0
    go_enter Tryz.func118, Tryz.ntmps118
    go_wp2_with (go_at_call 155; refine (HT.out _).mono ?_; rintro e w' ⟨rfl, rfl⟩)
    go_ret
    exact ⟨ret_int HC'.out.symm, rfl⟩
  · have e0 : (s.toList == [48]) = false := by rw [Lib.toList_data, beq_eq_false_iff_ne]; exact h0
    have HC' : Hid (chk s.data.toList = if z && o then (if 1000 < b.length then 14 else 0) else 12) := by rw [HC.out, if_neg h0]; rfl
    clear HC h0
    cases z <;> cases o <;> by_cases hl : 1000 < b.length
    all_goals
      go_enter Tryz.func118, Tryz.ntmps118
      go_wp2_with (first | (go_at_call 155; refine (HT.out _).mono ?_; rintro e w' ⟨rfl, rfl⟩) | (go_at_call 156; refine (HZ.out _).mono ?_; rintro e w' ⟨rfl, rfl⟩) | (go_at_call 157; refine (HO.out _).mono ?_; rintro e w' ⟨rfl, rfl⟩))
      go_ret
      exact ⟨ret_int (by rw [HC'.out]; simp [hl]), rfl⟩
end Go.Proofs.YtbfimfjhdbpenaaGreatDoor
/- The walks of layer 1: magnitudes: groups of nine digits. -/
namespace Go.Proofs.YtbfimfjhdbpenaaGreatDoor
open Go Go.RowKit
def encU (n : Nat) : Value := .int .u32 n
theorem Tryz.infoU : (Tryz.prog.info? 201).map (fun i => (i.zero, i.size, i.bytes)) = some (some (.int .u32 0), 1, 4) := by kernel_rfl
set_option maxHeartbeats 400000 in
theorem mat_any (A : Option Addr) (c : Nat) (ds : List Nat) (w : World) (hA : SlA encU w A ds) (i : Nat) :
    Calls Tryz.prog 178 #[.slice A ds.length c, .int .i64 i] w fun e w' => e = .returned (.int .u32 ((ds.getD i 0 : Nat) : Int)) ∧ w = w' := by
  by_cases hlt : i < ds.length
  · obtain ⟨b, o, rfl, hb, hc⟩ := hA.get hlt
    clear hA
    unfold encU at hc
    have H : Hid (ds.getD i 0 = ds[i]) := by show _ = _; simp [hlt]
    obtain ⟨x, hx⟩ : ∃ x, ds[i] = x := ⟨_, rfl⟩
    rw [hx] at hc H
    clear hx
    have h1 : (i : Int) < (ds.length : Int) := by omega
    go_enter Tryz.func178, Tryz.ntmps178
    go_wp2
    go_ret
    exact ⟨ret_int (by rw [H.out]), rfl⟩
  · have H : Hid (ds.getD i 0 = 0) := by show _ = _; simp [List.getD, List.getElem?_eq_none (Nat.le_of_not_lt hlt)]
    have h1 : (ds.length : Int) ≤ (i : Int) := by omega
    go_enter Tryz.func178, Tryz.ntmps178
    go_wp2
    go_ret
    exact ⟨ret_int (by rw [H.out]; rfl), rfl⟩
theorem mat_neg (A : Option Addr) (c n : Nat) (w : World) (i : Int) (hi : i < 0) :
    Calls Tryz.prog 178 #[.slice A n c, .int .i64 i] w fun e w' => e = .returned (.int .u32 0) ∧ w = w' := by
  go_enter Tryz.func178, Tryz.ntmps178
  go_wp2
  go_ret
  exact ⟨rfl, rfl⟩
def slLen : Value → Nat | .slice _ n _ => n | _ => 0
def trimI (xs : List Nat) (j : Nat) : Prop := vl 1000000000 xs = vl 1000000000 (xs.take j)
def Trimmed (xs ys : List Nat) : Prop := ys = xs.take ys.length ∧ vl 1000000000 ys = vl 1000000000 xs ∧ (ys ≠ [] → ys.getD (ys.length - 1) 0 ≠ 0)
set_option maxRecDepth 100000 in
set_option maxHeartbeats 600000 in
theorem trim_any (A : Option Addr) (c : Nat) (xs : List Nat) (w : World) (hA : SlA encU w A xs) (hla : xs.length ≤ c) (hc : c ≤ maxLen) :
    Calls Tryz.prog 164 #[.slice A xs.length c] w fun e w' => ∃ ys, e = .returned (.slice A ys.length c) ∧ Trimmed xs ys ∧ w = w' := by
  unfold maxLen at hc
  go_enter Tryz.func164, Tryz.ntmps164
  go_wp2
  go_loop [0] (fun x => ∃ j : Nat, j ≤ xs.length ∧ x = .slice A j c ∧ Hid (trimI xs j)) (fun x => slLen x)
  case atStart => exact ⟨xs.length, Nat.le_refl _, rfl, by show _ = _; rw [List.take_of_length_le (Nat.le_refl _)]⟩
  case round =>
    obtain ⟨j, hj, rfl, hinv⟩ := hrel
    cases j with
    | zero =>
      go_wp2
      go_ret
      exact ⟨[], rfl, ⟨rfl, by rw [hinv.out]; rfl, fun h => absurd rfl h⟩, rfl⟩
    | succ j =>
      have hlt : j < xs.length := hj
      obtain ⟨b, o, rfl, hb, hc0⟩ := hA.get hlt
      obtain ⟨x, hx⟩ : ∃ x, xs[j] = x := ⟨_, rfl⟩
      rw [hx] at hc0
      unfold encU at hc0
      by_cases h0 : x = 0
      · subst h0
        have HI : Hid (trimI xs j) := by
          have := hinv.out
          show _ = _
          unfold trimI at this
          rw [take_snoc xs j hlt, vl_snoc, hx] at this
          rw [this]; simp
        clear hinv hx hA
        go_wp2
        go_round
        case rel => exact ⟨j, by omega, rfl, HI⟩
        case measure => simp [slLen]
      · have hx0 : ((x : Int) == 0) = false := by rw [beq_eq_false_iff_ne]; omega
        have HT : Hid (Trimmed xs (xs.take (j + 1))) := by
          have hl : (xs.take (j + 1)).length = j + 1 := by rw [List.length_take]; omega
          refine ⟨by rw [hl], hinv.out.symm, fun _ => ?_⟩
          rw [hl, Nat.add_sub_cancel, List.getD_eq_getElem?_getD, List.getElem?_take, if_pos (by omega), List.getElem?_eq_getElem hlt, hx]
          simpa using h0
        have hl : (xs.take (j + 1)).length = j + 1 := by rw [List.length_take]; omega
        have HL := Lib.hid hl
        clear hinv hx hA h0 hl
        go_wp2
        go_ret
        exact ⟨xs.take (j + 1), by rw [HL.out]; rfl, HT, rfl⟩
theorem cmp_len (xs ys : List Nat) (hx : ∀ d ∈ xs, d < 1000000000) (hy : ∀ d ∈ ys, d < 1000000000) (ty : ys ≠ [] → ys.getD (ys.length - 1) 0 ≠ 0) (h : xs.length < ys.length) : vl 1000000000 xs < vl 1000000000 ys := by
  have h1 := vl_lt 1000000000 xs hx
  have hne : ys ≠ [] := by rintro rfl; simp at h
  have hg := ty hne
  obtain ⟨n, hn⟩ : ∃ n, ys.length = n + 1 := ⟨ys.length - 1, by omega⟩
  have e := vl_take_succ 1000000000 ys n
  rw [← hn, List.take_of_length_le (Nat.le_refl _)] at e
  rw [hn, Nat.add_sub_cancel] at hg
  have h2 : 1000000000 ^ n * 1 ≤ 1000000000 ^ n * ys.getD n 0 := Nat.mul_le_mul_left _ (Nat.one_le_iff_ne_zero.2 hg)
  have h3 : 1000000000 ^ xs.length ≤ 1000000000 ^ n := Nat.pow_le_pow_right (by omega) (by omega)
  omega
def GcInv (xs ys : List Nat) (j : Nat) : Prop := ∃ T, vl 1000000000 xs = vl 1000000000 (xs.take j) + 1000000000 ^ j * T ∧ vl 1000000000 ys = vl 1000000000 (ys.take j) + 1000000000 ^ j * T
theorem GcInv.start {xs ys : List Nat} {j : Nat} (h1 : xs.length ≤ j) (h2 : ys.length ≤ j) : GcInv xs ys j :=
  ⟨0, by rw [vl_take_all _ xs _ h1]; simp, by rw [vl_take_all _ ys _ h2]; simp⟩
theorem GcInv.last {xs ys : List Nat} (h : GcInv xs ys 0) : cmpN (vl 1000000000 xs) (vl 1000000000 ys) = 0 := by
  obtain ⟨T, h1, h2⟩ := h
  have : vl 1000000000 xs = vl 1000000000 ys := by rw [h1, h2]; simp
  unfold cmpN; rw [if_neg (by omega), if_neg (by omega)]
theorem GcInv.step {xs ys : List Nat} {j : Nat} (h : GcInv xs ys (j + 1)) (hx : ∀ d ∈ xs, d < 1000000000) (hy : ∀ d ∈ ys, d < 1000000000) :
    (cmpN (xs.getD j 0) (ys.getD j 0) = 0 → GcInv xs ys j) ∧ (cmpN (xs.getD j 0) (ys.getD j 0) ≠ 0 → cmpN (vl 1000000000 xs) (vl 1000000000 ys) = cmpN (xs.getD j 0) (ys.getD j 0)) := by
  obtain ⟨T, h1, h2⟩ := h
  obtain ⟨c1, c2, c3⟩ := vl_cmp 1000000000 xs ys hx hy (by omega) j T h1 h2
  unfold cmpN
  refine ⟨fun e => ?_, fun e => ?_⟩
  · refine ⟨_, c3 ?_⟩
    split at e
    · cases e
    · split at e
      · cases e
      · omega
  · rcases Nat.lt_trichotomy (xs.getD j 0) (ys.getD j 0) with g | g | g
    · have := c1 g
      rw [if_neg (by omega), if_pos this, if_neg (by omega), if_pos g]
    · rw [if_neg (by omega), if_neg (by omega)] at e; exact absurd rfl e
    · have := c2 g
      rw [if_pos this, if_pos g]
theorem cmpU_any (x y : Nat) (w : World) :
    Calls Tryz.prog 179 #[.int .u32 x, .int .u32 y] w fun e w' => e = .returned (.int .i64 (cmpN x y)) ∧ w = w' := by
  unfold cmpN
  rcases Nat.lt_trichotomy x y with h | rfl | h
  · rw [if_neg (by omega), if_pos h]
    have h1 : (x : Int) < (y : Int) := by omega
    have hn : ∀ z : Int, ((z != z) = false) := fun z => by simp
    have hnx := hn x
    have hny := hn y
    clear h hn
    go_enter Tryz.func179, Tryz.ntmps179
    go_wp2
    go_ret
    exact ⟨rfl, rfl⟩
  · rw [if_neg (by omega), if_neg (by omega)]
    go_enter Tryz.func179, Tryz.ntmps179
    go_wp2
    go_ret
    exact ⟨rfl, rfl⟩
  · rw [if_pos h]
    have h1 : (y : Int) < (x : Int) := by omega
    have hn : ∀ z : Int, ((z != z) = false) := fun z => by simp
    have hnx := hn x
    have hny := hn y
    clear h hn
    go_enter Tryz.func179, Tryz.ntmps179
    go_wp2
    go_ret
    exact ⟨rfl, rfl⟩
theorem cmpI_any (x y : Nat) (w : World) :
    Calls Tryz.prog 101 #[.int .i64 x, .int .i64 y] w fun e w' => e = .returned (.int .i64 (cmpN x y)) ∧ w = w' := by
  refine (Tryz.cmp_Compare_int x y w).mono fun e w' h => ⟨?_, h.2.symm⟩
  rw [h.1]
  refine ret_int ?_
  unfold Lib.compareInt cmpN
  rcases Nat.lt_trichotomy x y with g | g | g
  · rw [if_pos (by omega), if_neg (by omega), if_pos g]
  · rw [if_neg (by omega), if_neg (by omega), if_neg (by omega), if_neg (by omega)]
  · rw [if_neg (by omega), if_pos (by omega), if_pos g]
set_option maxRecDepth 100000 in
set_option maxHeartbeats 800000 in
theorem mcompare_any (A B : Option Addr) (ca cb : Nat) (xs ys : List Nat) (w : World) (hA : SlA encU w A xs) (hB : SlA encU w B ys) (ha : ∀ d ∈ xs, d < 1000000000) (hb : ∀ d ∈ ys, d < 1000000000)
    (tx : xs ≠ [] → xs.getD (xs.length - 1) 0 ≠ 0) (ty : ys ≠ [] → ys.getD (ys.length - 1) 0 ≠ 0) (hla : xs.length ≤ 1099511627776) :
    Calls Tryz.prog 161 #[.slice A xs.length ca, .slice B ys.length cb] w fun e w' => e = .returned (.int .i64 (cmpN (vl 1000000000 xs) (vl 1000000000 ys))) ∧ ∃ n, w' = w.drewN n := by
  have HC := Lib.hid (cmpI_any xs.length ys.length)
  rcases Nat.lt_trichotomy xs.length ys.length with h | h | h
  · have hr := cmp_len xs ys ha hb ty h
    have e1 : cmpN (vl 1000000000 xs) (vl 1000000000 ys) = -1 := by unfold cmpN; rw [if_neg (by omega), if_pos hr]
    have e2 : cmpN xs.length ys.length = -1 := by unfold cmpN; rw [if_neg (by omega), if_pos h]
    rw [e1]
    rw [e2] at HC
    clear e1 e2 hr ha hb tx ty
    go_enter Tryz.func161, Tryz.ntmps161
    go_wp2_with (go_at_call 101; refine (HC.out _).mono ?_; rintro e w' ⟨rfl, rfl⟩)
    go_ret
    exact ⟨rfl, 0, rfl⟩
  · have e2 : cmpN xs.length ys.length = 0 := by unfold cmpN; rw [if_neg (by omega), if_neg (by omega)]
    rw [e2] at HC
    have HS := Lib.hid (GcInv.start (xs := xs) (ys := ys) (j := xs.length) (Nat.le_refl _) (Nat.le_of_eq h.symm))
    have HG := Lib.hid (fun (j : Nat) (hh : GcInv xs ys (j + 1)) => hh.step ha hb)
    have HL := Lib.hid (GcInv.last (xs := xs) (ys := ys))
    have hle : ys.length ≤ xs.length := by omega
    have hle2 : xs.length ≤ ys.length := by omega
    obtain ⟨R, hR⟩ : ∃ R, cmpN (vl 1000000000 xs) (vl 1000000000 ys) = R := ⟨_, rfl⟩
    rw [hR] at HL HG ⊢
    clear e2 ha hb tx ty h hR
    go_enter Tryz.func161, Tryz.ntmps161
    go_wp2_with (go_at_call 101; refine (HC.out _).mono ?_; rintro e w' ⟨rfl, rfl⟩)
    go_loopw [6] (fun i wr => ∃ j n : Nat, j ≤ xs.length ∧ i = .int .i64 ((j : Int) - 1) ∧ Hid (GcInv xs ys j) ∧ Hid (wr = w.drewN n)) (fun i _ => (intOf i + 1).toNat)
    case atStart => exact ⟨xs.length, 0, Nat.le_refl _, rfl, HS, by show w = _; rfl⟩
    case round =>
      obtain ⟨j, n, hj, rfl, hinv, hwr⟩ := hrel
      cases j with
      | zero =>
        have HX := Lib.hid (HL.out hinv.out)
        clear hinv HG HL HS
        go_wp2
        go_ret
        exact ⟨ret_int HX.out.symm, n, hwr.out⟩
      | succ j =>
        have ej : ((j + 1 : Nat) : Int) - 1 = (j : Int) := by omega
        rw [ej]
        clear ej
        have HI := Lib.hid (HG.out j hinv.out)
        clear hinv HG HL HS
        have h1 : j < xs.length := hj
        have h2 : j < ys.length := by omega
        obtain ⟨b1, o1, rfl, hb1, hc1⟩ := hA.get h1
        obtain ⟨b2, o2, rfl, hb2, hc2⟩ := hB.get h2
        have ex : xs[j] = xs.getD j 0 := by simp [List.getD_eq_getElem?_getD, h1]
        have ey : ys[j] = ys.getD j 0 := by simp [List.getD_eq_getElem?_getD, h2]
        rw [ex] at hc1
        rw [ey] at hc2
        clear ex ey
        generalize xs.getD j 0 = x at *
        generalize ys.getD j 0 = y at *
        have hc1' : wr.cell? ⟨b1, o1 + j, none⟩ = some (.int .u32 (x : Int)) := by rw [hwr.out]; exact hc1
        have hc2' : wr.cell? ⟨b2, o2 + j, none⟩ = some (.int .u32 (y : Int)) := by rw [hwr.out]; exact hc2
        have ek1 : (0 : Int) ≤ (j : Int) := by omega
        have ek2 : (j : Int) < (xs.length : Int) := by omega
        have ek4 : (j : Int) < (ys.length : Int) := by omega
        have ek3 : ((j : Int)).toNat = j := by omega
        clear hc1 hc2
        go_wp2
        go_quiet ((go_at_call 179; exact Calls.quiet_of_same ((cmpU_any _ _ _).mono fun _ _ h => ⟨h.1, h.2.symm⟩)))
        have hwr2 : Hid (wr.drewN nq = w.drewN (n + nq)) := by show _ = _; rw [hwr.out, World.drewN_drewN]
        clear hc1' hc2' hwr
        generalize wr.drewN nq = wq at *
        by_cases hz : cmpN x y = 0
        · have HX := Lib.hid (HI.out.1 hz)
          rw [hz]
          clear HI hz
          go_wp2
          go_roundw
          case rel => exact ⟨j, n + nq, by omega, rfl, HX, hwr2⟩
          case measure => simp [intOf]
        · have HX := Lib.hid (HI.out.2 hz)
          have hz1 : (cmpN x y == 0) = false := by rw [beq_eq_false_iff_ne]; exact hz
          have hz2 : (cmpN x y != 0) = true := by rw [bne_iff_ne]; exact hz
          clear HI hz
          generalize cmpN x y = r at *
          go_wp2
          go_ret
          exact ⟨ret_int HX.out.symm, n + nq, hwr2.out⟩
  · have hr := cmp_len ys xs hb ha tx h
    have e1 : cmpN (vl 1000000000 xs) (vl 1000000000 ys) = 1 := by unfold cmpN; rw [if_pos hr]
    have e2 : cmpN xs.length ys.length = 1 := by unfold cmpN; rw [if_pos h]
    rw [e1]
    rw [e2] at HC
    clear e1 e2 hr ha hb tx ty
    go_enter Tryz.func161, Tryz.ntmps161
    go_wp2_with (go_at_call 101; refine (HC.out _).mono ?_; rintro e w' ⟨rfl, rfl⟩)
    go_ret
    exact ⟨rfl, 0, rfl⟩
end Go.Proofs.YtbfimfjhdbpenaaGreatDoor
/- The walks of layer 1: sums and differences of magnitudes. -/
namespace Go.Proofs.YtbfimfjhdbpenaaGreatDoor
open Go Go.RowKit
structure Nrm (zs : List Nat) : Prop where
  lt : ∀ d ∈ zs, d < 1000000000
  top : zs ≠ [] → zs.getD (zs.length - 1) 0 ≠ 0
theorem Nrm.of {os ys : List Nat} (h : ∀ t, os.getD t 0 < 1000000000) (ht : Trimmed os ys) : Nrm ys := by
  refine ⟨fun d hd => ?_, ht.2.2⟩
  rw [ht.1] at hd
  exact mem_getD os 1000000000 (fun t _ => h t) d (List.mem_of_mem_take hd)
theorem Trimmed.len {os ys : List Nat} (h : Trimmed os ys) : ys.length ≤ os.length := by
  have := congrArg List.length h.1
  rw [List.length_take] at this
  omega
theorem SlA.trimmed {w : World} {A : Option Addr} {os ys : List Nat} (h : SlA encU w A os) (ht : Trimmed os ys) : SlA encU w A ys := by
  rw [ht.1]; exact h.take
def MagR (w : World) (V N : Nat) (e : Ending) (w' : World) : Prop :=
  ∃ A c zs, e = .returned (.slice A zs.length c) ∧ SlA encU w' A zs ∧ Nrm zs ∧ vl 1000000000 zs = V ∧ zs.length ≤ N ∧ zs.length ≤ c ∧ c ≤ maxLen ∧ Below w.heap.size w w'
theorem own_setU {w : World} {base e g n cap : Nat} {os : List Nat} (h : w.ownsRow base e 1 (.slice (some ⟨g, 0, none⟩) n cap) n (os.map encU)) (j v : Nat) {z : Int} (hz : (v : Int) = z) :
    (w.setCell ⟨g, j, none⟩ (.int .u32 z)).ownsRow base e 1 (.slice (some ⟨g, 0, none⟩) n cap) n ((os.set j v).map encU) := by
  have h1 := (h.stored j (.int .u32 z)).1
  have e1 : (os.set j v).map encU = (os.map encU).set j (.int .u32 z) := by rw [List.map_set, ← hz]; rfl
  rw [e1]; exact h1
theorem own_cellU {w : World} {base e g n cap : Nat} {os : List Nat} (h : w.ownsRow base e 1 (.slice (some ⟨g, 0, none⟩) n cap) n (os.map encU)) (j : Nat) (hj : j < os.length) : w.cell? ⟨g, j, none⟩ = some (.int .u32 ((os.getD j 0 : Nat) : Int)) := by
  have hl : os.length = n := by have := h.1; simpa using this
  rw [h.cellAt j (by omega), List.getElem?_map, List.getElem?_eq_getElem hj]
  simp [List.getD_eq_getElem?_getD, hj, encU]
theorem zerosU (n : Nat) : (madeCells (Value.int .u32 0).cells (n * 1)).toList = (List.replicate n 0).map encU := by
  rw [Nat.mul_one]
  show (madeCells #[Value.int .u32 0] _).toList = _
  rw [toList_madeCells_one]; simp [encU]
def TotInv (n : Nat) (xs ys os : List Nat) (k c : Nat) : Prop := os.length = n ∧ (∀ t, os.getD t 0 < 1000000000) ∧ (∀ t, k ≤ t → os.getD t 0 = 0) ∧ vl 1000000000 os + 1000000000 ^ k * c = vl 1000000000 (xs.take k) + vl 1000000000 (ys.take k) ∧ c ≤ 1
theorem zeros_getD (n t : Nat) : (List.replicate n 0).getD t 0 = 0 := by
  simp [List.getD_eq_getElem?_getD, List.getElem?_replicate]; split <;> simp
theorem TotInv.start (n : Nat) (xs ys : List Nat) : TotInv n xs ys (List.replicate n 0) 0 0 :=
  ⟨by simp, fun t => by rw [zeros_getD]; omega, fun t _ => zeros_getD n t, by rw [vl_zeros]; simp [vl], by omega⟩
theorem TotInv.step {n : Nat} {xs ys os : List Nat} {k c : Nat} (h : TotInv n xs ys os k c) (hk : k < n) (hx : xs.getD k 0 < 1000000000) (hy : ys.getD k 0 < 1000000000) :
    TotInv n xs ys (os.set k ((c + (xs.getD k 0 + ys.getD k 0)) % 1000000000)) (k + 1) ((c + (xs.getD k 0 + ys.getD k 0)) / 1000000000) := by
  obtain ⟨h1, h2, h3, h4, h5⟩ := h
  refine ⟨by simpa using h1, fun t => ?_, fun t ht => ?_, ?_, by omega⟩
  · rw [getD_set]; split
    · omega
    · exact h2 t
  · rw [getD_set, if_neg (by omega)]; exact h3 t (by omega)
  · have a := vl_set 1000000000 os k ((c + (xs.getD k 0 + ys.getD k 0)) % 1000000000) (by omega)
    rw [h3 k (Nat.le_refl _)] at a
    rw [vl_take_succ, vl_take_succ, Nat.pow_succ]
    generalize xs.getD k 0 = x at *
    generalize ys.getD k 0 = y at *
    have hm := Nat.mod_add_div (c + (x + y)) 1000000000
    generalize (c + (x + y)) % 1000000000 = m at *
    generalize (c + (x + y)) / 1000000000 = q at *
    generalize 1000000000 ^ k = T at *
    grind
theorem carry_zero (B V W O M c : Nat) (hB : 2 ≤ B) (h5 : O + B ^ (M + 1) * c = V + W) (l1 : V < B ^ M) (l2 : W < B ^ M) : c = 0 := by
  rcases Nat.eq_zero_or_pos c with h0 | h0
  · exact h0
  · have h1 : B ^ (M + 1) * 1 ≤ B ^ (M + 1) * c := Nat.mul_le_mul_left _ h0
    rw [Nat.pow_succ] at h1 h5
    have h2 : B ^ M * 2 ≤ B ^ M * B := Nat.mul_le_mul_left _ hB
    omega
theorem TotInv.last {xs ys os : List Nat} {M c : Nat} (h : TotInv (M + 1) xs ys os (M + 1) c) (h1 : xs.length ≤ M) (h2 : ys.length ≤ M) (hx : ∀ d ∈ xs, d < 1000000000) (hy : ∀ d ∈ ys, d < 1000000000) :
    os.length = M + 1 ∧ (∀ t, os.getD t 0 < 1000000000) ∧ vl 1000000000 os = vl 1000000000 xs + vl 1000000000 ys := by
  obtain ⟨h3, h4, _, h5, _⟩ := h
  rw [vl_take_all _ xs _ (by omega), vl_take_all _ ys _ (by omega)] at h5
  have l1 := take_lt _ xs hx M (by omega)
  have l2 := take_lt _ ys hy M (by omega)
  rw [vl_take_all _ xs _ h1] at l1
  rw [vl_take_all _ ys _ h2] at l2
  have h0 := carry_zero _ _ _ _ _ _ (by omega) h5 l1 l2
  refine ⟨h3, h4, ?_⟩
  rw [h0, Nat.mul_zero, Nat.add_zero] at h5
  exact h5
set_option maxRecDepth 100000 in
set_option maxHeartbeats 800000 in
theorem total_any (A B : Option Addr) (ca cb : Nat) (xs ys : List Nat) (w : World) (hA : SlA encU w A xs) (hB : SlA encU w B ys) (ha : ∀ d ∈ xs, d < 1000000000) (hb : ∀ d ∈ ys, d < 1000000000) (hla : xs.length ≤ 1073741824) (hlb : ys.length ≤ 1073741824) :
    Calls Tryz.prog 160 #[.slice A xs.length ca, .slice B ys.length cb] w (MagR w (vl 1000000000 xs + vl 1000000000 ys) (max xs.length ys.length + 1)) := by
  obtain ⟨i0, hi, hz0, hz1, hz2⟩ := info_parts Tryz.infoU
  have HA := Lib.hid (getD_lt 1000000000 xs ha (by omega))
  have HB := Lib.hid (getD_lt 1000000000 ys hb (by omega))
  have hM : (xs.length < ys.length ∧ max xs.length ys.length = ys.length) ∨ (¬ xs.length < ys.length ∧ max xs.length ys.length = xs.length) := by omega
  have HL : ∀ os c, Hid (TotInv (max xs.length ys.length + 1) xs ys os (max xs.length ys.length + 1) c → os.length = max xs.length ys.length + 1 ∧ (∀ t, os.getD t 0 < 1000000000) ∧ vl 1000000000 os = vl 1000000000 xs + vl 1000000000 ys) := fun os c h => h.last (by omega) (by omega) ha hb
  clear ha hb
  have HL := Lib.hid HL
  obtain ⟨V, hV⟩ : ∃ V, vl 1000000000 xs + vl 1000000000 ys = V := ⟨_, rfl⟩
  rw [hV] at HL ⊢
  clear hV
  rcases hM with ⟨hm, hM⟩ | ⟨hm, hM⟩
  · rw [hM] at HL ⊢
    clear hM
    go_enter Tryz.func160, Tryz.ntmps160
    go_wp2_with (at_make; refine wpList_make_full _ rfl _ _ 160 rfl w.heap.size 201 i0 (.int .u32 0) 1 Tryz.underlying160 hi hz0 hz1 _ _ _ _ (ys.length + 1) rfl rfl (by omega) (by omega) (by rw [hz2]; omega) (by unfold maxLen; omega) (Nat.le_refl _) ?_; intro w1 hown hg1)
    have hb1 : Below w.heap.size w w1 := (Below.refl _ _).grown hg1 (Nat.le_refl _) (fun k hk => by cases hk)
    rw [zerosU] at hown
    go_loopw [7, 18] (fun cy i wr => ∃ (k c : Nat) (os : List Nat), k ≤ ys.length + 1 ∧ i = .int .i64 k ∧ cy = .int .u32 c ∧ c ≤ 1 ∧ wr.ownsRow w.heap.size 201 1 (.slice (some ⟨w.heap.size, 0, none⟩) (ys.length + 1) (ys.length + 1)) (ys.length + 1) (os.map encU) ∧ Hid (TotInv (ys.length + 1) xs ys os k c) ∧ Below w.heap.size w wr) (fun _ i _ => ys.length + 1 - (intOf i).toNat)
    case atStart => exact ⟨0, 0, _, by omega, rfl, rfl, by omega, hown, TotInv.start _ xs ys, hb1⟩
    case round =>
      clear hown hg1 hb1
      obtain ⟨k, c, os, hk, rfl, rfl, hc, hown, hinv, hbel⟩ := hrel
      by_cases hlt : k < ys.length + 1
      · have hx := HA.out k
        have hy := HB.out k
        have hol := hinv.out.1
        have hcell := own_cellU hown k (by omega)
        have hfr := hown.frozenAt k
        have HI := Lib.hid (hinv.out.step hlt hx hy)
        clear hinv hol
        have TA := Lib.hid (mat_any A ca xs wr (hA.below hbel) k)
        have TB := Lib.hid (mat_any B cb ys wr (hB.below hbel) k)
        generalize xs.getD k 0 = x at hx HI TA
        generalize ys.getD k 0 = y at hy HI TB
        generalize os.getD k 0 = z at hcell
        have hx' : (x : Int) ≤ 999999999 := by omega
        have hy' : (y : Int) ≤ 999999999 := by omega
        have hk' : (k : Int) < (ys.length : Int) + 1 := by omega
        clear hx hy
        go_wp2_with (first | (go_at_call 178; (with_reducible refine TA.out.mono ?_); rintro e w' ⟨rfl, rfl⟩) | (go_at_call 178; (with_reducible refine TB.out.mono ?_); rintro e w' ⟨rfl, rfl⟩))
        go_roundw
        case rel => exact ⟨k + 1, (c + (x + y)) / 1000000000, _, by omega, by go_num, int_eq (by omega), by omega, own_setU hown k ((c + (x + y)) % 1000000000) (by omega), HI, hbel.setCell (p := ⟨w.heap.size, k, none⟩) (Nat.le_refl _) _⟩
        case measure => simp [intOf]; omega
      · obtain rfl : k = ys.length + 1 := by omega
        obtain ⟨f1, f2, f3⟩ := (HL.out os c).out hinv.out
        have HF1 := Lib.hid f1
        have HF2 := Lib.hid f2
        have HF3 := Lib.hid f3
        have hfl : os.length ≤ ys.length + 1 := by omega
        obtain ⟨A2, c2, hv2, hn2, hS2⟩ := SlA.of_own hown
        have HT : Hid (Calls Tryz.prog 164 #[.slice (some ⟨w.heap.size, 0, none⟩) (ys.length + 1) (ys.length + 1)] wr fun e w' => ∃ zs, e = .returned (.slice (some ⟨w.heap.size, 0, none⟩) zs.length (ys.length + 1)) ∧ Trimmed os zs ∧ wr = w') := by
          have hv3 : (some ⟨w.heap.size, 0, none⟩ : Option Addr) = A2 := by injection hv2
          rw [← hv3] at hS2
          have := trim_any (some ⟨w.heap.size, 0, none⟩) (ys.length + 1) os wr hS2 (by omega) (by unfold maxLen; omega)
          rw [f1] at this
          exact Lib.hid this
        have hS3 : SlA encU wr (some ⟨w.heap.size, 0, none⟩) os := by
          have hv3 : (some ⟨w.heap.size, 0, none⟩ : Option Addr) = A2 := by injection hv2
          rw [hv3]; exact hS2
        clear HL hinv f1 f2 f3 hv2 hn2 hS2
        go_wp2_with (go_at_call 164; refine HT.out.mono ?_; rintro e w' ⟨zs, rfl, ht, rfl⟩; have HTr := Lib.hid ht; clear ht)
        go_ret
        exact ⟨_, _, zs, rfl, hS3.trimmed HTr.out, Nrm.of HF2.out HTr.out, by rw [HTr.out.2.1, HF3.out], Nat.le_trans HTr.out.len hfl, Nat.le_trans HTr.out.len hfl, by unfold maxLen; omega, hbel⟩
  · rw [hM] at HL ⊢
    clear hM
    go_enter Tryz.func160, Tryz.ntmps160
    go_wp2_with (at_make; refine wpList_make_full _ rfl _ _ 160 rfl w.heap.size 201 i0 (.int .u32 0) 1 Tryz.underlying160 hi hz0 hz1 _ _ _ _ (xs.length + 1) rfl rfl (by omega) (by omega) (by rw [hz2]; omega) (by unfold maxLen; omega) (Nat.le_refl _) ?_; intro w1 hown hg1)
    have hb1 : Below w.heap.size w w1 := (Below.refl _ _).grown hg1 (Nat.le_refl _) (fun k hk => by cases hk)
    rw [zerosU] at hown
    go_loopw [7, 18] (fun cy i wr => ∃ (k c : Nat) (os : List Nat), k ≤ xs.length + 1 ∧ i = .int .i64 k ∧ cy = .int .u32 c ∧ c ≤ 1 ∧ wr.ownsRow w.heap.size 201 1 (.slice (some ⟨w.heap.size, 0, none⟩) (xs.length + 1) (xs.length + 1)) (xs.length + 1) (os.map encU) ∧ Hid (TotInv (xs.length + 1) xs ys os k c) ∧ Below w.heap.size w wr) (fun _ i _ => xs.length + 1 - (intOf i).toNat)
    case atStart => exact ⟨0, 0, _, by omega, rfl, rfl, by omega, hown, TotInv.start _ xs ys, hb1⟩
    case round =>
      clear hown hg1 hb1
      obtain ⟨k, c, os, hk, rfl, rfl, hc, hown, hinv, hbel⟩ := hrel
      by_cases hlt : k < xs.length + 1
      · have hx := HA.out k
        have hy := HB.out k
        have hol := hinv.out.1
        have hcell := own_cellU hown k (by omega)
        have hfr := hown.frozenAt k
        have HI := Lib.hid (hinv.out.step hlt hx hy)
        clear hinv hol
        have TA := Lib.hid (mat_any A ca xs wr (hA.below hbel) k)
        have TB := Lib.hid (mat_any B cb ys wr (hB.below hbel) k)
        generalize xs.getD k 0 = x at hx HI TA
        generalize ys.getD k 0 = y at hy HI TB
        generalize os.getD k 0 = z at hcell
        have hx' : (x : Int) ≤ 999999999 := by omega
        have hy' : (y : Int) ≤ 999999999 := by omega
        have hk' : (k : Int) < (xs.length : Int) + 1 := by omega
        clear hx hy
        go_wp2_with (first | (go_at_call 178; (with_reducible refine TA.out.mono ?_); rintro e w' ⟨rfl, rfl⟩) | (go_at_call 178; (with_reducible refine TB.out.mono ?_); rintro e w' ⟨rfl, rfl⟩))
        go_roundw
        case rel => exact ⟨k + 1, (c + (x + y)) / 1000000000, _, by omega, by go_num, int_eq (by omega), by omega, own_setU hown k ((c + (x + y)) % 1000000000) (by omega), HI, hbel.setCell (p := ⟨w.heap.size, k, none⟩) (Nat.le_refl _) _⟩
        case measure => simp [intOf]; omega
      · obtain rfl : k = xs.length + 1 := by omega
        obtain ⟨f1, f2, f3⟩ := (HL.out os c).out hinv.out
        have HF1 := Lib.hid f1
        have HF2 := Lib.hid f2
        have HF3 := Lib.hid f3
        have hfl : os.length ≤ xs.length + 1 := by omega
        obtain ⟨A2, c2, hv2, hn2, hS2⟩ := SlA.of_own hown
        have HT : Hid (Calls Tryz.prog 164 #[.slice (some ⟨w.heap.size, 0, none⟩) (xs.length + 1) (xs.length + 1)] wr fun e w' => ∃ zs, e = .returned (.slice (some ⟨w.heap.size, 0, none⟩) zs.length (xs.length + 1)) ∧ Trimmed os zs ∧ wr = w') := by
          have hv3 : (some ⟨w.heap.size, 0, none⟩ : Option Addr) = A2 := by injection hv2
          rw [← hv3] at hS2
          have := trim_any (some ⟨w.heap.size, 0, none⟩) (xs.length + 1) os wr hS2 (by omega) (by unfold maxLen; omega)
          rw [f1] at this
          exact Lib.hid this
        have hS3 : SlA encU wr (some ⟨w.heap.size, 0, none⟩) os := by
          have hv3 : (some ⟨w.heap.size, 0, none⟩ : Option Addr) = A2 := by injection hv2
          rw [hv3]; exact hS2
        clear HL hinv f1 f2 f3 hv2 hn2 hS2
        go_wp2_with (go_at_call 164; refine HT.out.mono ?_; rintro e w' ⟨zs, rfl, ht, rfl⟩; have HTr := Lib.hid ht; clear ht)
        go_ret
        exact ⟨_, _, zs, rfl, hS3.trimmed HTr.out, Nrm.of HF2.out HTr.out, by rw [HTr.out.2.1, HF3.out], Nat.le_trans HTr.out.len hfl, Nat.le_trans HTr.out.len hfl, by unfold maxLen; omega, hbel⟩
end Go.Proofs.YtbfimfjhdbpenaaGreatDoor
/- The walks of layer 1: differences and products of magnitudes. -/
namespace Go.Proofs.YtbfimfjhdbpenaaGreatDoor
open Go Go.RowKit
def DifInv (xs ys os : List Nat) (k c : Nat) : Prop := os.length = xs.length ∧ (∀ t, os.getD t 0 < 1000000000) ∧ (∀ t, k ≤ t → os.getD t 0 = 0) ∧ vl 1000000000 os + vl 1000000000 (ys.take k) = vl 1000000000 (xs.take k) + 1000000000 ^ k * c ∧ c ≤ 1
theorem DifInv.start (xs ys : List Nat) : DifInv xs ys (List.replicate xs.length 0) 0 0 :=
  ⟨by simp, fun t => by rw [zeros_getD]; omega, fun t _ => zeros_getD _ t, by rw [vl_zeros]; simp [vl], by omega⟩
theorem DifInv.put {xs ys os : List Nat} {k c : Nat} (h : DifInv xs ys os k c) (hk : k < xs.length) (d c' : Nat) (hd : d < 1000000000) (he : d + ys.getD k 0 + c = xs.getD k 0 + 1000000000 * c') (hc' : c' ≤ 1) : DifInv xs ys (os.set k d) (k + 1) c' := by
  obtain ⟨h1, h2, h3, h4, h5⟩ := h
  refine ⟨by simpa using h1, fun t => ?_, fun t ht => ?_, ?_, hc'⟩
  · rw [getD_set]; split
    · exact hd
    · exact h2 t
  · rw [getD_set, if_neg (by omega)]; exact h3 t (by omega)
  · have a := vl_set 1000000000 os k d (by omega)
    rw [h3 k (Nat.le_refl _)] at a
    rw [vl_take_succ, vl_take_succ, Nat.pow_succ]
    generalize xs.getD k 0 = x at *
    generalize ys.getD k 0 = y at *
    generalize 1000000000 ^ k = T at *
    grind
theorem borrow_zero (B V W O Y n c : Nat) (h5 : O + Y = V + B ^ n * c) (l1 : O < B ^ n) (hle : Y ≤ W) (hW : W ≤ V) (hc : c ≤ 1) : c = 0 := by
  rcases Nat.eq_zero_or_pos c with h0 | h0
  · exact h0
  · obtain rfl : c = 1 := by omega
    rw [Nat.mul_one] at h5
    omega
theorem take_of_lt (B : Nat) (ys : List Nat) (n V : Nat) (hV : V < B ^ n) (h : vl B ys ≤ V) : vl B (ys.take n) = vl B ys := by
  by_cases hl : n ≤ ys.length
  · have e := vl_take_drop B ys n hl
    rcases Nat.eq_zero_or_pos (vl B (ys.drop n)) with h0 | h0
    · rw [h0, Nat.mul_zero, Nat.add_zero] at e; exact e.symm
    · have : B ^ n * 1 ≤ B ^ n * vl B (ys.drop n) := Nat.mul_le_mul_left _ h0
      omega
  · rw [vl_take_all _ ys _ (by omega)]
theorem DifInv.last {xs ys os : List Nat} {c : Nat} (h : DifInv xs ys os xs.length c) (hx : ∀ d ∈ xs, d < 1000000000) (hle : vl 1000000000 ys ≤ vl 1000000000 xs) :
    os.length = xs.length ∧ (∀ t, os.getD t 0 < 1000000000) ∧ vl 1000000000 os = vl 1000000000 xs - vl 1000000000 ys := by
  obtain ⟨h1, h2, _, h4, h5⟩ := h
  rw [vl_take_all _ xs _ (Nat.le_refl _), take_of_lt _ ys xs.length _ (vl_lt _ xs hx) hle] at h4
  have l2 := vl_lt _ os (mem_getD os _ fun t _ => h2 t)
  rw [h1] at l2
  have h0 := borrow_zero _ _ _ _ _ _ _ h4 l2 (Nat.le_refl _) hle h5
  refine ⟨h1, h2, ?_⟩
  rw [h0, Nat.mul_zero, Nat.add_zero] at h4
  omega
set_option maxRecDepth 100000 in
set_option maxHeartbeats 800000 in
theorem difference_any (A B : Option Addr) (ca cb : Nat) (xs ys : List Nat) (w : World) (hA : SlA encU w A xs) (hB : SlA encU w B ys) (ha : ∀ d ∈ xs, d < 1000000000) (hb : ∀ d ∈ ys, d < 1000000000) (hla : xs.length ≤ 1073741824) (hle : vl 1000000000 ys ≤ vl 1000000000 xs) :
    Calls Tryz.prog 159 #[.slice A xs.length ca, .slice B ys.length cb] w (MagR w (vl 1000000000 xs - vl 1000000000 ys) xs.length) := by
  obtain ⟨i0, hi, hz0, hz1, hz2⟩ := info_parts Tryz.infoU
  have HA := Lib.hid (getD_lt 1000000000 xs ha (by omega))
  have HB := Lib.hid (getD_lt 1000000000 ys hb (by omega))
  have HL : ∀ os c, Hid (DifInv xs ys os xs.length c → os.length = xs.length ∧ (∀ t, os.getD t 0 < 1000000000) ∧ vl 1000000000 os = vl 1000000000 xs - vl 1000000000 ys) := fun os c h => h.last ha hle
  clear ha hb hle
  have HL := Lib.hid HL
  obtain ⟨V, hV⟩ : ∃ V, vl 1000000000 xs - vl 1000000000 ys = V := ⟨_, rfl⟩
  rw [hV] at HL ⊢
  clear hV
  go_enter Tryz.func159, Tryz.ntmps159
  go_wp2_with (at_make; refine wpList_make_full _ rfl _ _ 160 rfl w.heap.size 201 i0 (.int .u32 0) 1 Tryz.underlying160 hi hz0 hz1 _ _ _ _ xs.length rfl rfl (by omega) (by omega) (by rw [hz2]; omega) (by unfold maxLen; omega) (Nat.le_refl _) ?_; intro w1 hown hg1)
  have hb1 : Below w.heap.size w w1 := (Below.refl _ _).grown hg1 (Nat.le_refl _) (fun k hk => by cases hk)
  rw [zerosU] at hown
  go_loopw [6, 15] (fun cy i wr => ∃ (k c : Nat) (os : List Nat), k ≤ xs.length ∧ i = .int .i64 k ∧ cy = .int .u32 c ∧ c ≤ 1 ∧ wr.ownsRow w.heap.size 201 1 (.slice (some ⟨w.heap.size, 0, none⟩) xs.length xs.length) xs.length (os.map encU) ∧ Hid (DifInv xs ys os k c) ∧ Below w.heap.size w wr) (fun _ i _ => xs.length - (intOf i).toNat)
  case atStart => exact ⟨0, 0, _, by omega, rfl, rfl, by omega, hown, DifInv.start xs ys, hb1⟩
  case round =>
    clear hown hg1 hb1
    obtain ⟨k, c, os, hk, rfl, rfl, hc, hown, hinv, hbel⟩ := hrel
    by_cases hlt : k < xs.length
    · have hx := HA.out k
      have hy := HB.out k
      have hol := hinv.out.1
      obtain ⟨b, o, rfl, hb0, hc0⟩ := (hA.below hbel).get hlt
      have ex : xs[k] = xs.getD k 0 := by simp [List.getD_eq_getElem?_getD, hlt]
      rw [ex] at hc0
      unfold encU at hc0
      have HI := Lib.hid (fun d c' => hinv.out.put hlt d c')
      have TB := Lib.hid (fun n => mat_any B cb ys (wr.drewN n) (hB.below (below_drewN hbel n)) k)
      have hkl : k < os.length := by omega
      clear hinv hol ex
      generalize xs.getD k 0 = x at *
      generalize ys.getD k 0 = y at *
      have hx' : (x : Int) ≤ 999999999 := by omega
      have hy' : (y : Int) ≤ 999999999 := by omega
      have hk' : (k : Int) < (xs.length : Int) := by omega
      have ek1 : (0 : Int) ≤ (k : Int) := by omega
      have ek3 : ((k : Int)).toNat = k := by omega
      have HX := Lib.hid hx
      have HY := Lib.hid hy
      clear hx hy
      go_wp2
      go_quiet ((go_at_call 178; exact Calls.quiet_of_same ((TB.out _).mono fun _ _ h => ⟨h.1, h.2.symm⟩)))
      have hownD : (wr.drewN nq).ownsRow w.heap.size 201 1 (.slice (some ⟨w.heap.size, 0, none⟩) xs.length xs.length) xs.length (os.map encU) := hown
      have hbelD : Below w.heap.size w (wr.drewN nq) := below_drewN hbel nq
      have hcell := own_cellU hownD k hkl
      have hfr := hownD.frozenAt k
      clear hown hbel hb0 hc0 TB
      generalize wr.drewN nq = wq at *
      generalize os.getD k 0 = z at hcell
      by_cases hd : y + c ≤ x
      · have HI2 := Lib.hid (HI.out (x - (y + c)) 0 (by have := HX.out; omega) (by omega) (by omega))
        have hd' : ¬ (x : Int) < (y : Int) + c := by omega
        clear HI
        go_wp2
        go_roundw
        case rel => exact ⟨k + 1, 0, _, by omega, by go_num, rfl, by omega, own_setU hownD k (x - (y + c)) (by omega), HI2, hbelD.setCell (p := ⟨w.heap.size, k, none⟩) (Nat.le_refl _) _⟩
        case measure => simp [intOf]; omega
      · have HI2 := Lib.hid (HI.out (x + 1000000000 - (y + c)) 1 (by omega) (by have := HY.out; omega) (by omega))
        have hd' : (x : Int) < (y : Int) + c := by omega
        clear HI
        go_wp2
        go_roundw
        case rel => exact ⟨k + 1, 1, _, by omega, by go_num, rfl, by omega, own_setU hownD k (x + 1000000000 - (y + c)) (by have := HY.out; omega), HI2, hbelD.setCell (p := ⟨w.heap.size, k, none⟩) (Nat.le_refl _) _⟩
        case measure => simp [intOf]; omega
    · obtain rfl : k = xs.length := by omega
      obtain ⟨f1, f2, f3⟩ := (HL.out os c).out hinv.out
      have HF2 := Lib.hid f2
      have HF3 := Lib.hid f3
      have hfl : os.length ≤ xs.length := by omega
      obtain ⟨A2, c2, hv2, hn2, hS2⟩ := SlA.of_own hown
      have hv3 : (some ⟨w.heap.size, 0, none⟩ : Option Addr) = A2 := by injection hv2
      have hS3 : SlA encU wr (some ⟨w.heap.size, 0, none⟩) os := by rw [hv3]; exact hS2
      have HT : Hid (Calls Tryz.prog 164 #[.slice (some ⟨w.heap.size, 0, none⟩) xs.length xs.length] wr fun e w' => ∃ zs, e = .returned (.slice (some ⟨w.heap.size, 0, none⟩) zs.length xs.length) ∧ Trimmed os zs ∧ wr = w') := by
        have := trim_any (some ⟨w.heap.size, 0, none⟩) xs.length os wr hS3 (by omega) (by unfold maxLen; omega)
        rw [f1] at this
        exact Lib.hid this
      clear HL hinv f1 f2 f3 hv2 hv3 hn2 hS2
      go_wp2_with (go_at_call 164; refine HT.out.mono ?_; rintro e w' ⟨zs, rfl, ht, rfl⟩; have HTr := Lib.hid ht; clear ht)
      go_ret
      exact ⟨_, _, zs, rfl, hS3.trimmed HTr.out, Nrm.of HF2.out HTr.out, by rw [HTr.out.2.1, HF3.out], Nat.le_trans HTr.out.len hfl, Nat.le_trans HTr.out.len hfl, by unfold maxLen; omega, hbel⟩
end Go.Proofs.YtbfimfjhdbpenaaGreatDoor
/- The walks of layer 1: products of magnitudes. -/
namespace Go.Proofs.YtbfimfjhdbpenaaGreatDoor
open Go Go.RowKit
def PrInv (B : Nat) (xs ys os : List Nat) (i j c : Nat) : Prop := os.length = xs.length + ys.length ∧ (∀ t, os.getD t 0 < B) ∧ (∀ t, i + ys.length ≤ t → os.getD t 0 = 0) ∧
  vl B os + B ^ (i + j) * c = vl B (xs.take i) * vl B ys + B ^ i * (xs.getD i 0 * vl B (ys.take j)) ∧ c < B
theorem PrInv.start {B : Nat} (hB : 0 < B) (xs ys : List Nat) : PrInv B xs ys (List.replicate (xs.length + ys.length) 0) 0 0 0 :=
  ⟨by simp, fun t => by rw [zeros_getD]; exact hB, fun t _ => zeros_getD _ t, by rw [vl_zeros]; simp [vl], hB⟩
theorem mac_lt {B x y z c : Nat} (hx : x < B) (hy : y < B) (hz : z < B) (hc : c < B) : (c + (z + x * y)) / B < B := by
  obtain ⟨b, rfl⟩ : ∃ b, B = b + 1 := ⟨B - 1, by omega⟩
  refine Nat.div_lt_of_lt_mul ?_
  have h1 : x * y ≤ b * b := Nat.mul_le_mul (by omega) (by omega)
  have h2 : (b + 1) * (b + 1) = b * b + b + b + 1 := by rw [Nat.mul_add, Nat.add_mul]; omega
  omega
theorem PrInv.step {B : Nat} {xs ys os : List Nat} {i j c : Nat} (h : PrInv B xs ys os i j c) (hi : i < xs.length) (hj : j < ys.length) (hx : xs.getD i 0 < B) (hy : ys.getD j 0 < B) :
    PrInv B xs ys (os.set (i + j) ((c + (os.getD (i + j) 0 + xs.getD i 0 * ys.getD j 0)) % B)) i (j + 1) ((c + (os.getD (i + j) 0 + xs.getD i 0 * ys.getD j 0)) / B) := by
  obtain ⟨h1, h2, h3, h4, h5⟩ := h
  have hz := h2 (i + j)
  refine ⟨by simpa using h1, fun t => ?_, fun t ht => ?_, ?_, mac_lt hx hy hz h5⟩
  · rw [getD_set]; split
    · exact Nat.mod_lt _ (by omega)
    · exact h2 t
  · rw [getD_set, if_neg (by omega)]; exact h3 t ht
  · have a := vl_set B os (i + j) ((c + (os.getD (i + j) 0 + xs.getD i 0 * ys.getD j 0)) % B) (by omega)
    have e1 : B ^ (i + (j + 1)) = B ^ (i + j) * B := by rw [← Nat.add_assoc, Nat.pow_succ]
    have e2 : B ^ (i + j) = B ^ i * B ^ j := Nat.pow_add _ _ _
    rw [vl_take_succ, e1]
    rw [e2] at a h4 ⊢
    generalize xs.getD i 0 = x at *
    generalize ys.getD j 0 = y at *
    generalize os.getD (i + j) 0 = z at *
    have hm := Nat.mod_add_div (c + (z + x * y)) B
    generalize (c + (z + x * y)) % B = m at *
    generalize (c + (z + x * y)) / B = q at *
    generalize B ^ i = T at *
    generalize B ^ j = U at *
    grind
theorem PrInv.next {B : Nat} {xs ys os : List Nat} {i c : Nat} (h : PrInv B xs ys os i ys.length c) (hi : i < xs.length) : PrInv B xs ys (os.set (i + ys.length) c) (i + 1) 0 0 := by
  obtain ⟨h1, h2, h3, h4, h5⟩ := h
  refine ⟨by simpa using h1, fun t => ?_, fun t ht => ?_, ?_, by omega⟩
  · rw [getD_set]; split
    · exact h5
    · exact h2 t
  · rw [getD_set, if_neg (by omega)]; exact h3 t (by omega)
  · have a := vl_set B os (i + ys.length) c (by omega)
    rw [h3 (i + ys.length) (Nat.le_refl _)] at a
    rw [vl_take_all _ ys _ (Nat.le_refl _)] at h4
    rw [vl_take_succ]
    simp only [Nat.mul_zero, Nat.add_zero, List.take_zero, vl] at a ⊢
    generalize xs.getD i 0 = x at *
    generalize B ^ (i + ys.length) = U at *
    generalize B ^ i = T at *
    grind
theorem PrInv.last {B : Nat} {xs ys os : List Nat} (h : PrInv B xs ys os xs.length 0 0) : os.length = xs.length + ys.length ∧ (∀ t, os.getD t 0 < B) ∧ vl B os = vl B xs * vl B ys := by
  obtain ⟨h1, h2, _, h4, _⟩ := h
  rw [vl_take_all _ xs _ (Nat.le_refl _), List.take_zero] at h4
  simp only [vl, Nat.mul_zero, Nat.add_zero] at h4
  exact ⟨h1, h2, h4⟩
set_option maxRecDepth 100000 in
set_option maxHeartbeats 1000000 in
theorem product_any (A B : Option Addr) (ca cb : Nat) (xs ys : List Nat) (w : World) (hA : SlA encU w A xs) (hB : SlA encU w B ys) (ha : ∀ d ∈ xs, d < 1000000000) (hb : ∀ d ∈ ys, d < 1000000000) (hla : xs.length ≤ 1073741824) (hlb : ys.length ≤ 1073741824) :
    Calls Tryz.prog 154 #[.slice A xs.length ca, .slice B ys.length cb] w (MagR w (vl 1000000000 xs * vl 1000000000 ys) (xs.length + ys.length)) := by
  obtain ⟨i0, hi, hz0, hz1, hz2⟩ := info_parts Tryz.infoU
  have HA := Lib.hid (getD_lt 1000000000 xs ha (by omega))
  have HB := Lib.hid (getD_lt 1000000000 ys hb (by omega))
  clear ha hb
  go_enter Tryz.func154, Tryz.ntmps154
  go_wp2_with (at_make; refine wpList_make_full _ rfl _ _ 160 rfl w.heap.size 201 i0 (.int .u32 0) 1 Tryz.underlying160 hi hz0 hz1 _ _ _ _ (xs.length + ys.length) rfl rfl (by omega) (by omega) (by rw [hz2]; omega) (by unfold maxLen; omega) (Nat.le_refl _) ?_; intro w1 hown hg1)
  have hb1 : Below w.heap.size w w1 := (Below.refl _ _).grown hg1 (Nat.le_refl _) (fun k hk => by cases hk)
  rw [zerosU] at hown
  go_loopw [17] (fun i wr => ∃ (k : Nat) (os : List Nat), k ≤ xs.length ∧ i = .int .i64 k ∧ wr.ownsRow w.heap.size 201 1 (.slice (some ⟨w.heap.size, 0, none⟩) (xs.length + ys.length) (xs.length + ys.length)) (xs.length + ys.length) (os.map encU) ∧ Hid (PrInv 1000000000 xs ys os k 0 0) ∧ Below w.heap.size w wr) (fun i _ => xs.length - (intOf i).toNat)
  case atStart => exact ⟨0, _, by omega, rfl, hown, PrInv.start (by omega) xs ys, hb1⟩
  case round =>
    clear hown hg1 hb1
    obtain ⟨k, os, hk, rfl, hown, hinv, hbel⟩ := hrel
    obtain ⟨wo, rfl⟩ : ∃ wo : World, wo = wr := ⟨_, rfl⟩
    by_cases hlt : k < xs.length
    · have hx := HA.out k
      go_wp2
      go_loopw [7, 22] (fun cy j wr => ∃ (j' c : Nat) (os : List Nat), j' ≤ ys.length ∧ j = .int .i64 j' ∧ cy = .int .u64 c ∧ wr.ownsRow w.heap.size 201 1 (.slice (some ⟨w.heap.size, 0, none⟩) (xs.length + ys.length) (xs.length + ys.length)) (xs.length + ys.length) (os.map encU) ∧ Hid (PrInv 1000000000 xs ys os k j' c) ∧ Below w.heap.size w wr) (fun _ j _ => ys.length - (intOf j).toNat)
      case atStart => exact ⟨0, 0, os, by omega, rfl, rfl, hown, hinv, hbel⟩
      case round =>
        clear hown hinv hbel
        obtain ⟨j, c, os, hj, rfl, rfl, hown, hinv, hbel⟩ := hrel
        have hol := hinv.out.1
        have hc5 := hinv.out.2.2.2.2
        have hc' : (c : Int) ≤ 999999999 := by omega
        by_cases hjl : j < ys.length
        · have hy := HB.out j
          obtain ⟨b1, o1, rfl, hb1', hc1⟩ := (hA.below hbel).get hlt
          obtain ⟨b2, o2, rfl, hb2', hc2⟩ := (hB.below hbel).get hjl
          have ex : xs[k] = xs.getD k 0 := by simp [List.getD_eq_getElem?_getD, hlt]
          have ey : ys[j] = ys.getD j 0 := by simp [List.getD_eq_getElem?_getD, hjl]
          rw [ex] at hc1
          rw [ey] at hc2
          have hcell := own_cellU hown (k + j) (by omega)
          have hz := hinv.out.2.1 (k + j)
          have hfr := hown.frozenAt (k + j)
          have HI := Lib.hid (hinv.out.step hlt hjl hx hy)
          clear hinv ex ey hol hc5
          generalize xs.getD k 0 = x at *
          generalize ys.getD j 0 = y at *
          generalize os.getD (k + j) 0 = z at *
          have hxy : x * y ≤ 999999999 * 999999999 := Nat.mul_le_mul (by omega) (by omega)
          have hxy1 : (x : Int) * (y : Int) ≤ 999999998000000001 := by rw [← Int.natCast_mul]; omega
          have hxy2 : 0 ≤ (x : Int) * (y : Int) := by rw [← Int.natCast_mul]; omega
          have hz1' : (z : Int) ≤ 999999999 := by omega
          have hx' : (x : Int) ≤ 999999999 := by omega
          have hy' : (y : Int) ≤ 999999999 := by omega
          have hk0 : (k : Int) < (xs.length : Int) := by omega
          have hj0 : (j : Int) < (ys.length : Int) := by omega
          have hkj : (k : Int) + (j : Int) < (xs.length : Int) + (ys.length : Int) := by omega
          have ek1 : (0 : Int) ≤ (k : Int) + (j : Int) := by omega
          have ek3 : ((k : Int) + (j : Int)).toNat = k + j := by omega
          have ek5 : ((k : Int)).toNat = k := by omega
          have ek6 : ((j : Int)).toNat = j := by omega
          unfold encU at hc1 hc2
          clear hxy hx hy hz
          go_wp2
          go_quiet (fail)
          have hownD : (wr.drewN nq).ownsRow w.heap.size 201 1 (.slice (some ⟨w.heap.size, 0, none⟩) (xs.length + ys.length) (xs.length + ys.length)) (xs.length + ys.length) (os.map encU) := hown
          have hbelD : Below w.heap.size w (wr.drewN nq) := below_drewN hbel nq
          have hcellD : (wr.drewN nq).cell? ⟨w.heap.size, k + j, none⟩ = some (.int .u32 (z : Int)) := hcell
          have hfrD : (wr.drewN nq).frozen? ⟨w.heap.size, k + j, none⟩ = false := hfr
          obtain ⟨p, hp⟩ : ∃ p, x * y = p := ⟨_, rfl⟩
          have hpi : (x : Int) * (y : Int) = (p : Int) := by rw [← hp, Int.natCast_mul]
          rw [hpi] at hxy1
          rw [hp] at HI
          rw [hpi]
          clear hown hbel hcell hfr hc1 hc2 hp hpi hxy2
          generalize wr.drewN nq = wq at *
          go_wp2
          go_roundw
          case rel => exact ⟨j + 1, (c + (z + p)) / 1000000000, _, by omega, by go_num, int_eq (by omega), own_setU hownD (k + j) ((c + (z + p)) % 1000000000) (by omega), HI, hbelD.setCell (p := ⟨w.heap.size, k + j, none⟩) (Nat.le_refl _) _⟩
          case measure => simp [intOf]; omega
        · obtain rfl : j = ys.length := by omega
          have hcell := own_cellU hown (k + ys.length) (by omega)
          have hfr := hown.frozenAt (k + ys.length)
          have HN := Lib.hid (hinv.out.next hlt)
          clear hinv hol hc5
          generalize os.getD (k + ys.length) 0 = z at *
          have hk0 : (k : Int) < (xs.length : Int) := by omega
          clear hx
          go_wp2
          go_roundw
          case rel => exact ⟨k + 1, _, by omega, by go_num, own_setU hown (k + ys.length) c rfl, HN, hbel.setCell (p := ⟨w.heap.size, k + ys.length, none⟩) (Nat.le_refl _) _⟩
          case measure => simp [intOf]; omega
    · obtain rfl : k = xs.length := by omega
      obtain ⟨f1, f2, f3⟩ := hinv.out.last
      have HF2 := Lib.hid f2
      have HF3 := Lib.hid f3
      have hfl : os.length ≤ xs.length + ys.length := by omega
      obtain ⟨A2, c2, hv2, hn2, hS2⟩ := SlA.of_own hown
      have hv3 : (some ⟨w.heap.size, 0, none⟩ : Option Addr) = A2 := by injection hv2
      have hS3 : SlA encU wo (some ⟨w.heap.size, 0, none⟩) os := by rw [hv3]; exact hS2
      have HT : Hid (Calls Tryz.prog 164 #[.slice (some ⟨w.heap.size, 0, none⟩) (xs.length + ys.length) (xs.length + ys.length)] wo fun e w' => ∃ zs, e = .returned (.slice (some ⟨w.heap.size, 0, none⟩) zs.length (xs.length + ys.length)) ∧ Trimmed os zs ∧ wo = w') := by
        have := trim_any (some ⟨w.heap.size, 0, none⟩) (xs.length + ys.length) os wo hS3 (by omega) (by unfold maxLen; omega)
        rw [f1] at this
        exact Lib.hid this
      clear hinv f1 f2 f3 hv2 hv3 hn2 hS2
      go_wp2_with (go_at_call 164; refine HT.out.mono ?_; rintro e w' ⟨zs, rfl, ht, rfl⟩; have HTr := Lib.hid ht; clear ht)
      go_ret
      exact ⟨_, _, zs, rfl, hS3.trimmed HTr.out, Nrm.of HF2.out HTr.out, by rw [HTr.out.2.1, HF3.out], Nat.le_trans HTr.out.len hfl, Nat.le_trans HTr.out.len hfl, by unfold maxLen; omega, hbel⟩
end Go.Proofs.YtbfimfjhdbpenaaGreatDoor
/- The walks of layer 1: Of and To. -/
namespace Go.Proofs.YtbfimfjhdbpenaaGreatDoor
open Go Go.RowKit
theorem gTab : Tryz.prog.globalNamed "internal/strconv.uint64pow10" = some 3 := by kernel_rfl
end Go.Proofs.YtbfimfjhdbpenaaGreatDoor

/- Joined: IntA, IntM, IntM2, IntM3, IntM4, IntB. -/
import Derived.Test.YtalejbabhjlehaaGreatDoorPk6
import Derived.Test.YtalejbabhjlehaaGreatDoorRows
import Derived.Test.YtalejbabhjlehaaGreatDoorShelf
import Derived.WalkKit
import Derived.WalkSpells
import Derived.WalkLawsBesides
import Derived.Lib.Hide
import Derived.Deep.QuietTactic
import Derived.BigQuiet
import Derived.BigRegion
import Derived.WalkSmall
/- The walks of layer 1: leaves over texts. -/
namespace Go.Proofs.YtalejbabhjlehaaGreatDoor
open Go Go.RowKit
set_option maxHeartbeats 400000 in
theorem onlyDigits_any (s : ByteArray) (w : World) (hs : s.size ≤ maxLen) :
    Calls Tryz.prog 146 #[.string s] w fun e w' => e = .returned (.bool (odB s.data.toList)) ∧ w = w' := by
  unfold maxLen at hs
  go_enter Tryz.func146, Tryz.ntmps146
  go_wp2
  go_loop [3, 6] (fun j i => ∃ k : Nat, k ≤ s.size ∧ i = .int .i64 k ∧ odB (s.data.toList.take k) = true) (fun _ i => s.size - (intOf i).toNat)
  case atStart => exact ⟨0, Nat.zero_le _, rfl, rfl⟩
  case round =>
    obtain ⟨k, hk, rfl, hall⟩ := hrel
    by_cases hlt : k < s.size
    · by_cases hd : 48 ≤ (s[k].toNat : Int) ∧ (s[k].toNat : Int) ≤ 57
      · have H := Lib.hid (odB_succ s k hlt hall hd)
        clear hall
        obtain ⟨hd1, hd2⟩ := hd
        go_wp2
        go_round
        case rel => exact ⟨k + 1, by omega, by go_num, H.out⟩
        case measure => simp [intOf]; omega
      · have H := Lib.hid (odB_false s k hlt hd)
        clear hall
        go_wp2
        all_goals
          go_ret
          exact ⟨ret_bool H.out.symm, rfl⟩
    · obtain rfl : k = s.size := by omega
      have H := Lib.hid (odB_all s hall)
      clear hall
      go_wp2
      go_ret
      exact ⟨ret_bool H.out.symm, rfl⟩
theorem isEmpty_toList (s : ByteArray) (h : s.size = 0) : s.toList = [] := by
  rw [Lib.toList_data]; exact List.eq_nil_of_length_eq_zero (by simpa using h)
theorem isEmpty_toList' (s : ByteArray) (h : 0 < s.size) : s.toList.isEmpty = false := by
  rw [Lib.toList_data, List.isEmpty_eq_false_iff]
  intro e
  have h1 := congrArg List.length e
  have h2 : s.data.toList.length = s.size := (Lib.size_eq s).symm
  simp only [List.length_nil] at h1
  omega
set_option maxHeartbeats 400000 in
theorem startsAboveZero_any (s : ByteArray) (w : World) :
    Calls Tryz.prog 145 #[.string s] w fun e w' => e = .returned (.bool (szB s.data.toList)) ∧ w = w' := by
  by_cases h0 : s.size = 0
  · have H := Lib.hid (szB_nil s h0)
    have hn := isEmpty_toList s h0
    clear h0
    go_enter Tryz.func145, Tryz.ntmps145
    go_wp2
    go_ret
    exact ⟨ret_bool H.out.symm, rfl⟩
  · have h1 : 0 < s.size := by omega
    have H := Lib.hid (szB_cons s h1)
    have hne := isEmpty_toList' s h1
    clear h0
    go_enter Tryz.func145, Tryz.ntmps145
    have hd : ¬ (49 : Int) ≤ (s[0].toNat : Int) → Hid (decide ((49 : Int) ≤ (s[0].toNat : Int)) = false) := fun h => decide_eq_false h
    by_cases h2 : (49 : Int) ≤ (s[0].toNat : Int)
    · clear hd
      have hd' : Hid (decide ((49 : Int) ≤ (s[0].toNat : Int)) = true) := decide_eq_true h2
      go_wp2
      go_ret
      exact ⟨ret_bool (by rw [H.out, hd'.out]; rfl), rfl⟩
    · have hd' := hd h2
      clear hd
      go_wp2
      go_ret
      exact ⟨ret_bool (by rw [H.out, hd'.out]; rfl), rfl⟩
theorem trim_minus (s : ByteArray) (b : List UInt8) (hb : bod s.data.toList = b) (w : World) :
    Calls Tryz.prog 144 #[.string s, .string ⟨#[45]⟩] w fun e w' => e = .returned (.string ⟨b.toArray⟩) ∧ w = w' := by
  subst hb
  exact (Tryz.strings_TrimPrefix s ⟨#[45]⟩ w).mono fun _ _ h => ⟨h.1, h.2.symm⟩
theorem onlyDigits_of (b : List UInt8) (r : Bool) (hr : odB b = r) (w : World) (hs : b.length ≤ maxLen) :
    Calls Tryz.prog 146 #[.string ⟨b.toArray⟩] w fun e w' => e = .returned (.bool r) ∧ w = w' := by
  subst hr; exact onlyDigits_any ⟨b.toArray⟩ w hs
theorem startsAboveZero_of (b : List UInt8) (r : Bool) (hr : szB b = r) (w : World) :
    Calls Tryz.prog 145 #[.string ⟨b.toArray⟩] w fun e w' => e = .returned (.bool r) ∧ w = w' := by
  subst hr; exact startsAboveZero_any ⟨b.toArray⟩ w
set_option maxHeartbeats 400000 in
theorem check_any (s : ByteArray) (w : World) (hs : s.size ≤ maxLen) :
    Calls Tryz.prog 135 #[.string s] w fun e w' => e = .returned (.int .i64 (chk s.data.toList)) ∧ w = w' := by
  have hb := bod_length s.data.toList
  rw [← Lib.size_eq] at hb
  obtain ⟨b, hbb⟩ : ∃ b, bod s.data.toList = b := ⟨_, rfl⟩
  rw [hbb] at hb
  have HC : Hid (chk s.data.toList = if s.data.toList = [48] then 0 else if szB b && odB b then (if 1000 < b.length then 14 else 0) else 12) := by rw [← hbb]; rfl
  have HT := Lib.hid (trim_minus s b hbb)
  unfold maxLen at hs
  clear hbb
  obtain ⟨z, hz⟩ : ∃ z, szB b = z := ⟨_, rfl⟩
  obtain ⟨o, ho⟩ : ∃ o, odB b = o := ⟨_, rfl⟩
  have HZ := Lib.hid (startsAboveZero_of b z hz)
  have HO := Lib.hid (fun W => onlyDigits_of b o ho W (by unfold maxLen; omega))
  rw [hz, ho] at HC
  clear hz ho
  by_cases h0 : s.data.toList = [48]
  · have e0 : (s.toList == [48]) = true := by rw [Lib.toList_data, h0]; rfl
    have HC' : Hid (chk s.data.toList = 0) := by rw [HC.out, if_pos h0]; rfl
    clear HC h0
    go_enter Tryz.func135, Tryz.ntmps135
    go_wp2_with (go_at_call 144; refine (HT.out _).mono ?_; rintro e w' ⟨rfl, rfl⟩)
    go_ret
    exact ⟨ret_int HC'.out.symm, rfl⟩
  · have e0 : (s.toList == [48]) = false := by rw [Lib.toList_data, beq_eq_false_iff_ne]; exact h0
    have HC' : Hid (chk s.data.toList = if z && o then (if 1000 < b.length then 14 else 0) else 12) := by rw [HC.out, if_neg h0]; rfl
    clear HC h0
    cases z <;> cases o <;> by_cases hl : 1000 < b.length
    all_goals
      go_enter Tryz.func135, Tryz.ntmps135
      go_wp2_with (first | (go_at_call 144; refine (HT.out _).mono ?_; rintro e w' ⟨rfl, rfl⟩) | (go_at_call 145; refine (HZ.out _).mono ?_; rintro e w' ⟨rfl, rfl⟩) | (go_at_call 146; refine (HO.out _).mono ?_; rintro e w' ⟨rfl, rfl⟩))
      go_ret
      exact ⟨ret_int (by rw [HC'.out]; simp [hl]), rfl⟩
end Go.Proofs.YtalejbabhjlehaaGreatDoor
/- The walks of layer 1: magnitudes: groups of nine digits. -/
namespace Go.Proofs.YtalejbabhjlehaaGreatDoor
open Go Go.RowKit
def encU (n : Nat) : Value := .int .u32 n
theorem Tryz.infoU : (Tryz.prog.info? 117).map (fun i => (i.zero, i.size, i.bytes)) = some (some (.int .u32 0), 1, 4) := by kernel_rfl
set_option maxHeartbeats 400000 in
theorem mat_any (A : Option Addr) (c : Nat) (ds : List Nat) (w : World) (hA : SlA encU w A ds) (i : Nat) :
    Calls Tryz.prog 178 #[.slice A ds.length c, .int .i64 i] w fun e w' => e = .returned (.int .u32 ((ds.getD i 0 : Nat) : Int)) ∧ w = w' := by
  by_cases hlt : i < ds.length
  · obtain ⟨b, o, rfl, hb, hc⟩ := hA.get hlt
    clear hA
    unfold encU at hc
    have H : Hid (ds.getD i 0 = ds[i]) := by show _ = _; simp [hlt]
    obtain ⟨x, hx⟩ : ∃ x, ds[i] = x := ⟨_, rfl⟩
    rw [hx] at hc H
    clear hx
    have h1 : (i : Int) < (ds.length : Int) := by omega
    go_enter Tryz.func178, Tryz.ntmps178
    go_wp2
    go_ret
    exact ⟨ret_int (by rw [H.out]), rfl⟩
  · have H : Hid (ds.getD i 0 = 0) := by show _ = _; simp [List.getD, List.getElem?_eq_none (Nat.le_of_not_lt hlt)]
    have h1 : (ds.length : Int) ≤ (i : Int) := by omega
    go_enter Tryz.func178, Tryz.ntmps178
    go_wp2
    go_ret
    exact ⟨ret_int (by rw [H.out]; rfl), rfl⟩
theorem mat_neg (A : Option Addr) (c n : Nat) (w : World) (i : Int) (hi : i < 0) :
    Calls Tryz.prog 178 #[.slice A n c, .int .i64 i] w fun e w' => e = .returned (.int .u32 0) ∧ w = w' := by
  go_enter Tryz.func178, Tryz.ntmps178
  go_wp2
  go_ret
  exact ⟨rfl, rfl⟩
def slLen : Value → Nat | .slice _ n _ => n | _ => 0
def trimI (xs : List Nat) (j : Nat) : Prop := vl 1000000000 xs = vl 1000000000 (xs.take j)
def Trimmed (xs ys : List Nat) : Prop := ys = xs.take ys.length ∧ vl 1000000000 ys = vl 1000000000 xs ∧ (ys ≠ [] → ys.getD (ys.length - 1) 0 ≠ 0)
set_option maxRecDepth 100000 in
set_option maxHeartbeats 600000 in
theorem trim_any (A : Option Addr) (c : Nat) (xs : List Nat) (w : World) (hA : SlA encU w A xs) (hla : xs.length ≤ c) (hc : c ≤ maxLen) :
    Calls Tryz.prog 167 #[.slice A xs.length c] w fun e w' => ∃ ys, e = .returned (.slice A ys.length c) ∧ Trimmed xs ys ∧ w = w' := by
  unfold maxLen at hc
  go_enter Tryz.func167, Tryz.ntmps167
  go_wp2
  go_loop [0] (fun x => ∃ j : Nat, j ≤ xs.length ∧ x = .slice A j c ∧ Hid (trimI xs j)) (fun x => slLen x)
  case atStart => exact ⟨xs.length, Nat.le_refl _, rfl, by show _ = _; rw [List.take_of_length_le (Nat.le_refl _)]⟩
  case round =>
    obtain ⟨j, hj, rfl, hinv⟩ := hrel
    cases j with
    | zero =>
      go_wp2
      go_ret
      exact ⟨[], rfl, ⟨rfl, by rw [hinv.out]; rfl, fun h => absurd rfl h⟩, rfl⟩
    | succ j =>
      have hlt : j < xs.length := hj
      obtain ⟨b, o, rfl, hb, hc0⟩ := hA.get hlt
      obtain ⟨x, hx⟩ : ∃ x, xs[j] = x := ⟨_, rfl⟩
      rw [hx] at hc0
      unfold encU at hc0
      by_cases h0 : x = 0
      · subst h0
        have HI : Hid (trimI xs j) := by
          have := hinv.out
          show _ = _
          unfold trimI at this
          rw [take_snoc xs j hlt, vl_snoc, hx] at this
          rw [this]; simp
        clear hinv hx hA
        go_wp2
        go_round
        case rel => exact ⟨j, by omega, rfl, HI⟩
        case measure => simp [slLen]
      · have hx0 : ((x : Int) == 0) = false := by rw [beq_eq_false_iff_ne]; omega
        have HT : Hid (Trimmed xs (xs.take (j + 1))) := by
          have hl : (xs.take (j + 1)).length = j + 1 := by rw [List.length_take]; omega
          refine ⟨by rw [hl], hinv.out.symm, fun _ => ?_⟩
          rw [hl, Nat.add_sub_cancel, List.getD_eq_getElem?_getD, List.getElem?_take, if_pos (by omega), List.getElem?_eq_getElem hlt, hx]
          simpa using h0
        have hl : (xs.take (j + 1)).length = j + 1 := by rw [List.length_take]; omega
        have HL := Lib.hid hl
        clear hinv hx hA h0 hl
        go_wp2
        go_ret
        exact ⟨xs.take (j + 1), by rw [HL.out]; rfl, HT, rfl⟩
theorem cmp_len (xs ys : List Nat) (hx : ∀ d ∈ xs, d < 1000000000) (hy : ∀ d ∈ ys, d < 1000000000) (ty : ys ≠ [] → ys.getD (ys.length - 1) 0 ≠ 0) (h : xs.length < ys.length) : vl 1000000000 xs < vl 1000000000 ys := by
  have h1 := vl_lt 1000000000 xs hx
  have hne : ys ≠ [] := by rintro rfl; simp at h
  have hg := ty hne
  obtain ⟨n, hn⟩ : ∃ n, ys.length = n + 1 := ⟨ys.length - 1, by omega⟩
  have e := vl_take_succ 1000000000 ys n
  rw [← hn, List.take_of_length_le (Nat.le_refl _)] at e
  rw [hn, Nat.add_sub_cancel] at hg
  have h2 : 1000000000 ^ n * 1 ≤ 1000000000 ^ n * ys.getD n 0 := Nat.mul_le_mul_left _ (Nat.one_le_iff_ne_zero.2 hg)
  have h3 : 1000000000 ^ xs.length ≤ 1000000000 ^ n := Nat.pow_le_pow_right (by omega) (by omega)
  omega
end Go.Proofs.YtalejbabhjlehaaGreatDoor
/- The walks of layer 1: sums and differences of magnitudes. -/
namespace Go.Proofs.YtalejbabhjlehaaGreatDoor
open Go Go.RowKit
structure Nrm (zs : List Nat) : Prop where
  lt : ∀ d ∈ zs, d < 1000000000
  top : zs ≠ [] → zs.getD (zs.length - 1) 0 ≠ 0
theorem Nrm.of {os ys : List Nat} (h : ∀ t, os.getD t 0 < 1000000000) (ht : Trimmed os ys) : Nrm ys := by
  refine ⟨fun d hd => ?_, ht.2.2⟩
  rw [ht.1] at hd
  exact mem_getD os 1000000000 (fun t _ => h t) d (List.mem_of_mem_take hd)
theorem Trimmed.len {os ys : List Nat} (h : Trimmed os ys) : ys.length ≤ os.length := by
  have := congrArg List.length h.1
  rw [List.length_take] at this
  omega
theorem SlA.trimmed {w : World} {A : Option Addr} {os ys : List Nat} (h : SlA encU w A os) (ht : Trimmed os ys) : SlA encU w A ys := by
  rw [ht.1]; exact h.take
theorem own_setU {w : World} {base e g n cap : Nat} {os : List Nat} (h : w.ownsRow base e 1 (.slice (some ⟨g, 0, none⟩) n cap) n (os.map encU)) (j v : Nat) {z : Int} (hz : (v : Int) = z) :
    (w.setCell ⟨g, j, none⟩ (.int .u32 z)).ownsRow base e 1 (.slice (some ⟨g, 0, none⟩) n cap) n ((os.set j v).map encU) := by
  have h1 := (h.stored j (.int .u32 z)).1
  have e1 : (os.set j v).map encU = (os.map encU).set j (.int .u32 z) := by rw [List.map_set, ← hz]; rfl
  rw [e1]; exact h1
theorem own_cellU {w : World} {base e g n cap : Nat} {os : List Nat} (h : w.ownsRow base e 1 (.slice (some ⟨g, 0, none⟩) n cap) n (os.map encU)) (j : Nat) (hj : j < os.length) : w.cell? ⟨g, j, none⟩ = some (.int .u32 ((os.getD j 0 : Nat) : Int)) := by
  have hl : os.length = n := by have := h.1; simpa using this
  rw [h.cellAt j (by omega), List.getElem?_map, List.getElem?_eq_getElem hj]
  simp [List.getD_eq_getElem?_getD, hj, encU]
theorem zerosU (n : Nat) : (madeCells (Value.int .u32 0).cells (n * 1)).toList = (List.replicate n 0).map encU := by
  rw [Nat.mul_one]
  show (madeCells #[Value.int .u32 0] _).toList = _
  rw [toList_madeCells_one]; simp [encU]
theorem zeros_getD (n t : Nat) : (List.replicate n 0).getD t 0 = 0 := by
  simp [List.getD_eq_getElem?_getD, List.getElem?_replicate]; split <;> simp
end Go.Proofs.YtalejbabhjlehaaGreatDoor
/- The walks of layer 1: differences and products of magnitudes. -/
namespace Go.Proofs.YtalejbabhjlehaaGreatDoor
open Go Go.RowKit
end Go.Proofs.YtalejbabhjlehaaGreatDoor
/- The walks of layer 1: products of magnitudes. -/
namespace Go.Proofs.YtalejbabhjlehaaGreatDoor
open Go Go.RowKit
end Go.Proofs.YtalejbabhjlehaaGreatDoor
/- The walks of layer 1: Of and To. -/
namespace Go.Proofs.YtalejbabhjlehaaGreatDoor
open Go Go.RowKit
theorem gTab : Tryz.prog.globalNamed "internal/strconv.uint64pow10" = some 3 := by kernel_rfl
end Go.Proofs.YtalejbabhjlehaaGreatDoor

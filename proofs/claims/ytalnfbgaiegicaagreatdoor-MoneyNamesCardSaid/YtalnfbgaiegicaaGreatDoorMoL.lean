/- Layer 7: the program's walks: the text of an amount out of an integer's, and back. -/
import Derived.Test.YtalnfbgaiegicaaGreatDoorMoK
import Derived.Test.YtalnfbgaiegicaaGreatDoorMoT
import Derived.Test.YtalnfbgaiegicaaGreatDoorIntA4
import Derived.Test.YtalnfbgaiegicaaGreatDoorShelf3
import Derived.Shelf.Strings.SlTrimAscii
namespace Go.Proofs.YtalnfbgaiegicaaGreatDoor
open Go Go.RowKit

theorem ba_app (a b : ByteArray) : (a ++ b).data.toList = a.data.toList ++ b.data.toList := by rw [ByteArray.data_append, Array.toList_append]
theorem ba_ext (s : ByteArray) (a b : Nat) : (s.extract a b).data.toList = (s.data.toList.drop a).take (b - a) := by
  rw [ByteArray.data_extract, Array.toList_extract]
theorem ba_sz (s : ByteArray) : s.size = s.data.toList.length := by simp
theorem rep48 (k : Nat) : Lib.repeatL [48] k = List.replicate k 48 := by
  have := Lib.repeatL_replicate 48 1 k
  rw [Nat.mul_one] at this
  exact this
theorem ba_eq {s : ByteArray} {l : List UInt8} (h : s.data.toList = l) : s = ⟨l.toArray⟩ := by
  cases s with
  | mk d => exact congrArg ByteArray.mk (Array.toList_inj.1 (by rw [h]))
section
set_option maxRecDepth 100000
set_option maxHeartbeats 1600000
theorem pointed_walk (s D Z : ByteArray) (g : Bool) (u k n p : Nat) (T : List UInt8) (hT : T = (if g then [45] else []) ++ ((Z.data.toList ++ D.data.toList).take p ++ (if u = 0 then [] else 46 :: (Z.data.toList ++ D.data.toList).drop p))) (w : World) (hu : u ≤ 3) (hn : D.size = n) (hk : Z.size = k) (hkn : k = u + 1 - n) (hp : k + n - u = p) (hn2 : n ≤ 2147483648)
    (H1 : ∀ W, Calls Tryz.prog 87 #[.string s, .string ⟨#[45]⟩] W fun e w' => e = .returned (.tuple #[.string D, .bool g]) ∧ w' = W)
    (H2 : ∀ W, Calls Tryz.prog 88 #[.string ⟨#[48]⟩, .int .i64 k] W (StrR Z W)) :
    Calls Tryz.prog 49 #[.string s, .int .i64 u] w fun e w' => ∃ R : ByteArray, e = .returned (.string R) ∧ Below w.heap.size w w' ∧ R.data.toList = T := by
  have J1 := Lib.hid H1
  have J2 := Lib.hid H2
  have hmax : max ((u : Int) + 1 - (n : Int)) 0 = (k : Int) := by omega
  have hpt : (k : Int) + (n : Int) - (u : Int) = (p : Int) := by omega
  have hpk : p ≤ k + n := by omega
  have hsz : (Z ++ D).size = k + n := by rw [ByteArray.size_append, hk, hn]
  have t1 : ¬ 9223372036854775807 < Z.size + D.size := by omega
  have e1 : ((Z ++ D).extract 0 p).data.toList = (Z.data.toList ++ D.data.toList).take p := by rw [ba_ext, ba_app]; simp
  have e2 : ((Z ++ D).extract p (Z ++ D).size).data.toList = (Z.data.toList ++ D.data.toList).drop p := by
    rw [ba_ext, ba_app, ba_sz, ba_app, List.take_of_length_le (by rw [List.length_drop]; exact Nat.le_refl _)]
  have E1 := Lib.hid e1
  have E2 := Lib.hid e2
  have s1 : ((Z ++ D).extract 0 p).size = p := by rw [ByteArray.size_extract, hsz]; omega
  have s2 : ((Z ++ D).extract p (Z ++ D).size).size = k + n - p := by rw [ByteArray.size_extract, hsz]; omega
  have HT := Lib.hid hT
  have EE : (Z ++ D).extract p (Z ++ D).size = (Z ++ D).extract p (k + n) := by rw [hsz]
  rw [EE] at E2 s2
  clear H1 H2 hkn hp e1 e2 hT EE
  cases g
  · rcases Nat.eq_zero_or_pos u with h0 | h0
    · subst h0
      have q1 : max (1 - (n : Int)) 0 = (k : Int) := by omega
      have q2 : (k : Int) + (n : Int) = (p : Int) := by omega
      go_enter Tryz.func49, Tryz.ntmps49
      go_wp2_with (first
          | (go_at_call 87; ((with_reducible refine (J1.out _).mono ?_); rintro e w1 ⟨rfl, rfl⟩))
          | (go_at_call 88; ((with_reducible refine (J2.out _).mono ?_); rintro e w2 ⟨rfl, b⟩; have B2 := Lib.hid b; clear b)))
      go_ret
      refine ⟨_, rfl, B2.out, ?_⟩
      rw [HT.out]
      rw [E1.out]; simp
    · have q1 : (0 : Int) < (u : Int) := by omega
      go_enter Tryz.func49, Tryz.ntmps49
      go_wp2_with (first
          | (go_at_call 87; ((with_reducible refine (J1.out _).mono ?_); rintro e w1 ⟨rfl, rfl⟩))
          | (go_at_call 88; ((with_reducible refine (J2.out _).mono ?_); rintro e w2 ⟨rfl, b⟩; have B2 := Lib.hid b; clear b)))
      go_ret
      refine ⟨_, rfl, B2.out, ?_⟩
      rw [HT.out]
      rw [if_neg (by omega : ¬ u = 0), ba_app, ba_app, E1.out, E2.out]; rfl
  · rcases Nat.eq_zero_or_pos u with h0 | h0
    · subst h0
      have q1 : max (1 - (n : Int)) 0 = (k : Int) := by omega
      have q2 : (k : Int) + (n : Int) = (p : Int) := by omega
      go_enter Tryz.func49, Tryz.ntmps49
      go_wp2_with (first
          | (go_at_call 87; ((with_reducible refine (J1.out _).mono ?_); rintro e w1 ⟨rfl, rfl⟩))
          | (go_at_call 88; ((with_reducible refine (J2.out _).mono ?_); rintro e w2 ⟨rfl, b⟩; have B2 := Lib.hid b; clear b)))
      go_ret
      refine ⟨_, rfl, B2.out, ?_⟩
      rw [HT.out]
      rw [ba_app, E1.out]; simp
    · have q1 : (0 : Int) < (u : Int) := by omega
      go_enter Tryz.func49, Tryz.ntmps49
      go_wp2_with (first
          | (go_at_call 87; ((with_reducible refine (J1.out _).mono ?_); rintro e w1 ⟨rfl, rfl⟩))
          | (go_at_call 88; ((with_reducible refine (J2.out _).mono ?_); rintro e w2 ⟨rfl, b⟩; have B2 := Lib.hid b; clear b)))
      go_ret
      refine ⟨_, rfl, B2.out, ?_⟩
      rw [HT.out]
      rw [if_neg (by omega : ¬ u = 0), ba_app, ba_app, ba_app, E1.out, E2.out]; rfl
end
theorem ppointed_any (s : ByteArray) (u : Nat) (hu : u ≤ 3) (hs : s.size ≤ 1048576) (w : World) :
    Calls Tryz.prog 49 #[.string s, .int .i64 u] w (StrR ⟨(ptL u s.data.toList).toArray⟩ w) := by
  have hb := bod_length s.data.toList
  have hl : s.data.toList.length = s.size := by simp
  have hr : (⟨(List.replicate (u + 1 - (bod s.data.toList).length) (48 : UInt8)).toArray⟩ : ByteArray).data.toList = List.replicate (u + 1 - (bod s.data.toList).length) 48 := rfl
  refine (pointed_walk s ⟨(bod s.data.toList).toArray⟩ ⟨(List.replicate (u + 1 - (bod s.data.toList).length) 48).toArray⟩ (ngB s.data.toList) u (u + 1 - (bod s.data.toList).length) (bod s.data.toList).length
    ((padM u (bod s.data.toList)).length - u) (ptL u s.data.toList) rfl w hu rfl (by show (List.replicate _ _).length = _; rw [List.length_replicate]) rfl (by rw [padM_len]; omega) (by omega)
    (fun W => cut_minus s _ rfl _ rfl W) (fun W => ?_)).mono ?_
  · have := Tryz.strings_Repeat ⟨#[48]⟩ (u + 1 - (bod s.data.toList).length) W (by omega) (by show 1 * _ ≤ _; omega)
    rw [show (⟨#[48]⟩ : ByteArray).data.toList = [48] from rfl, rep48] at this
    exact this
  · rintro e w' ⟨R, rfl, hb, hR⟩
    exact ⟨by rw [ba_eq hR], hb⟩
section
set_option maxRecDepth 100000
set_option maxHeartbeats 1600000
theorem unpointed_walk (s R D : ByteArray) (T : ByteArray) (w : World) (hv : VarM w)
    (H1 : ∀ W, VarM W → Calls Tryz.prog 96 #[.string s, .string ⟨#[46]⟩, .string ⟨#[]⟩, .int .i64 1] W (StrR R W))
    (H2 : ∀ W, Calls Tryz.prog 95 #[.string R, .string ⟨#[45, 48]⟩] W (StrR D W))
    (H3 : ∀ W, Calls Tryz.prog 97 #[.string s, .string ⟨#[45]⟩] W fun e w' => e = .returned (.bool (ngB s.data.toList)) ∧ w' = W)
    (hD : D.size ≤ 2147483648) (hT : (D.data.toList = [] ∧ T = ⟨#[48]⟩) ∨ (D.data.toList ≠ [] ∧ ngB s.data.toList = true ∧ T = ⟨#[45]⟩ ++ D) ∨ (D.data.toList ≠ [] ∧ ngB s.data.toList = false ∧ T = D)) :
    Calls Tryz.prog 53 #[.string s] w (StrR T w) := by
  have HV := Lib.hid hv
  have J1 := Lib.hid H1
  have J2 := Lib.hid H2
  have J3 := Lib.hid H3
  clear H1 H2 H3 hv
  rcases hT with ⟨h1, rfl⟩ | ⟨h1, h2, rfl⟩ | ⟨h1, h2, h3⟩
  · have q1 : (D.toList == []) = true := by rw [Lib.toList_data, h1]; rfl
    have q2 : D.toList.isEmpty = true := by rw [Lib.toList_data, h1]; rfl
    clear h1 J3
    go_enter Tryz.func53, Tryz.ntmps53
    go_wp2_with (first
      | (go_at_call 96; ((with_reducible refine (J1.out _ HV.out).mono ?_); rintro e w1 ⟨rfl, b⟩; have B1 := Lib.hid b; clear b))
      | (go_at_call 95; ((with_reducible refine (J2.out _).mono ?_); rintro e w2 ⟨rfl, b⟩; have B2 := Lib.hid (btM B1.out b); clear b)))
    go_ret
    exact ⟨rfl, B2.out⟩
  · have q1 : (D.toList == []) = false := by rw [Lib.toList_data, beq_eq_false_iff_ne]; exact h1
    have q2 : D.toList.isEmpty = false := by rw [Lib.toList_data, List.isEmpty_eq_false_iff]; exact h1
    have J4 := J3
    rw [h2] at J4
    have q3 : ¬ 9223372036854775807 < (⟨#[45]⟩ : ByteArray).size + D.size := by show ¬ 9223372036854775807 < 1 + D.size; omega
    clear h1 J3 h2
    go_enter Tryz.func53, Tryz.ntmps53
    go_wp2_with (first
      | (go_at_call 96; ((with_reducible refine (J1.out _ HV.out).mono ?_); rintro e w1 ⟨rfl, b⟩; have B1 := Lib.hid b; clear b))
      | (go_at_call 95; ((with_reducible refine (J2.out _).mono ?_); rintro e w2 ⟨rfl, b⟩; have B2 := Lib.hid (btM B1.out b); clear b))
      | (go_at_call 97; ((with_reducible refine (J4.out _).mono ?_); rintro e w3 ⟨rfl, rfl⟩)))
    go_ret
    exact ⟨rfl, B2.out⟩
  · have q1 : (D.toList == []) = false := by rw [Lib.toList_data, beq_eq_false_iff_ne]; exact h1
    have q2 : D.toList.isEmpty = false := by rw [Lib.toList_data, List.isEmpty_eq_false_iff]; exact h1
    have J4 := J3
    rw [h2] at J4
    rw [h3]
    clear h1 J3 h2 h3
    go_enter Tryz.func53, Tryz.ntmps53
    go_wp2_with (first
      | (go_at_call 96; ((with_reducible refine (J1.out _ HV.out).mono ?_); rintro e w1 ⟨rfl, b⟩; have B1 := Lib.hid b; clear b))
      | (go_at_call 95; ((with_reducible refine (J2.out _).mono ?_); rintro e w2 ⟨rfl, b⟩; have B2 := Lib.hid (btM B1.out b); clear b))
      | (go_at_call 97; ((with_reducible refine (J4.out _).mono ?_); rintro e w3 ⟨rfl, rfl⟩)))
    go_ret
    exact ⟨rfl, B2.out⟩
end
theorem rm46_len (l : List UInt8) : (rm46 l).length ≤ l.length := by
  induction l with
  | nil => exact Nat.le_refl _
  | cons c r ih => rw [rm46_cons]; split <;> simp <;> omega
theorem stp_len (l : List UInt8) : (stpL l).length ≤ l.length := by
  unfold stpL Lib.trimLeftS
  have h1 := (List.dropWhile_sublist (fun x => [(45 : UInt8), 48].contains x) (l := rm46 l)).length_le
  exact Nat.le_trans h1 (rm46_len l)
theorem hasp_ng (s : ByteArray) : Lib.hasPrefix s.data.toList (⟨#[45]⟩ : ByteArray).data.toList = ngB s.data.toList := by
  match s.data.toList with
  | [] => rfl
  | c :: r =>
    show (45 == c && [].isPrefixOf r) = (some c == some 45)
    by_cases hc : c = 45
    · subst hc; rfl
    · have h1 : (45 == c) = false := by rw [beq_eq_false_iff_ne]; exact fun e => hc e.symm
      have h2 : (some c == some (45 : UInt8)) = false := by rw [beq_eq_false_iff_ne]; exact fun e => hc (by injection e)
      rw [h1, h2]; rfl
theorem punpointed_any (s : ByteArray) (hs : s.size ≤ 1048576) (w : World) (hv : VarM w) :
    Calls Tryz.prog 53 #[.string s] w (StrR ⟨(unpL s.data.toList).toArray⟩ w) := by
  have hl : s.data.toList.length = s.size := by simp
  have h1 := stp_len s.data.toList
  refine unpointed_walk s ⟨(rm46 s.data.toList).toArray⟩ ⟨(stpL s.data.toList).toArray⟩ _ w hv (fun W hW => ?_) (fun W => ?_) (fun W => ?_) (by show (stpL s.data.toList).length ≤ _; omega) ?_
  · obtain ⟨m, hm⟩ := hW.ml
    have := Tryz.strings_Replace s ⟨#[46]⟩ ⟨#[]⟩ 1 m W (by omega) hm (by decide) (by show s.size + _ * 0 ≤ _; omega)
    rw [show (⟨#[46]⟩ : ByteArray).data.toList = [46] from rfl, show (⟨#[]⟩ : ByteArray).data.toList = [] from rfl, repl46] at this
    exact this
  · have := Any.strings_TrimLeft_laid Tryz.lays161 (by kernel_rfl) ⟨(rm46 s.data.toList).toArray⟩ ⟨#[45, 48]⟩ W (by decide) (ascii_of_all (by decide))
    exact this
  · have := Tryz.strings_HasPrefix s ⟨#[45]⟩ W
    rw [hasp_ng] at this
    exact this
  · unfold unpL
    by_cases h : stpL s.data.toList = []
    · rw [if_pos h]; exact .inl ⟨h, rfl⟩
    · rw [if_neg h]
      cases hg : ngB s.data.toList
      · exact .inr (.inr ⟨h, rfl, rfl⟩)
      · refine .inr (.inl ⟨h, rfl, ?_⟩)
        symm
        refine ba_eq ?_
        rw [ba_app]
        rfl
end Go.Proofs.YtalnfbgaiegicaaGreatDoor

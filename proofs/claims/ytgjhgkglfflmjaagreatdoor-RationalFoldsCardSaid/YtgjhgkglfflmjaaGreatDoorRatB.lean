/- The walks of layer 2: signs, divisors, texts. -/
import Derived.Test.YtgjhgkglfflmjaaGreatDoorRatA
import Derived.Test.YtgjhgkglfflmjaaGreatDoorShelf2
namespace Go.Proofs.YtgjhgkglfflmjaaGreatDoor
open Go Go.RowKit

theorem hasPrefix_ng (l : List UInt8) : Lib.hasPrefix l [45] = ngB l := by
  cases l with
  | nil => rfl
  | cons c r =>
    unfold Lib.hasPrefix ngB
    rw [Bool.eq_iff_iff]
    simp only [List.isPrefixOf, List.head?_cons, Bool.and_true, beq_iff_eq, Option.some.injEq]
    exact ⟨fun h => h.symm, fun h => h.symm⟩
theorem ret_ba {a b : ByteArray} (h : a = b) : Ending.returned (.string a) = .returned (.string b) := by rw [h]
theorem negative_any' (s : ByteArray) (b : Bool) (hb : ngB s.data.toList = b) (w : World) :
    Calls Tryz.prog 85 #[.string s] w fun e w' => e = .returned (.bool b) ∧ w = w' := by
  have HP := Tryz.strings_HasPrefix s ⟨#[45]⟩ w
  rw [show (⟨#[45]⟩ : ByteArray).data.toList = [45] from rfl, hasPrefix_ng, hb] at HP
  have HP := Lib.hid HP
  clear hb
  go_enter Tryz.func85, Tryz.ntmps85
  go_wp2_with (go_at_call 118; refine HP.out.mono ?_; rintro e w1 ⟨rfl, rfl⟩)
  go_ret
  exact ⟨rfl, rfl⟩
set_option maxHeartbeats 400000 in
theorem aboveOne_any (s : ByteArray) (b : Bool) (hb : okD s.data.toList = b) (w : World) :
    Calls Tryz.prog 74 #[.string s] w fun e w' => e = .returned (.bool b) ∧ w = w' := by
  obtain ⟨g, hg⟩ : ∃ g, ngB s.data.toList = g := ⟨_, rfl⟩
  have HN := Lib.hid (fun W => negative_any' s g hg W)
  obtain ⟨z, hz⟩ : ∃ z, (s.toList == [48]) = z := ⟨_, rfl⟩
  obtain ⟨o, ho⟩ : ∃ o, (s.toList == [49]) = o := ⟨_, rfl⟩
  have HB : Hid ((!g && !z && !o) = b) := by
    show _ = _
    rw [← hb, ← hg, ← hz, ← ho, Lib.toList_data]; rfl
  clear hb hg
  cases g <;> cases z <;> cases o
  all_goals
    go_enter Tryz.func74, Tryz.ntmps74
    go_wp2_with (go_at_call 85; refine (HN.out _).mono ?_; rintro e w1 ⟨rfl, rfl⟩)
    go_ret
    exact ⟨ret_bool HB.out, rfl⟩
theorem divisor_any (s t : ByteArray) (hs : s.size ≤ maxLen) (ht : t.size ≤ maxLen) (r : List UInt8 × Int) (hr : gcS s.data.toList t.data.toList = r) (w : World) (hv : VarT w) :
    Calls Tryz.prog 75 #[.string s, .string t] w fun e w' => e = .returned (.string ⟨r.1.toArray⟩) ∧ Below w.heap.size w w' := by
  have HG := gcd_any s t hs ht w hv
  rw [hr] at HG
  have HG := Lib.hid HG
  clear hr hs ht hv
  go_enter Tryz.func75, Tryz.ntmps75
  go_wp2_with (go_at_call 107; refine HG.out.mono ?_; rintro e w1 ⟨rfl, hb1⟩)
  go_ret
  exact ⟨rfl, hb1⟩
/-- The text of a fraction. -/
def txtL (n d : List UInt8) : List UInt8 := if d = [49] then n else n ++ 47 :: d
theorem cat_slash (n d : ByteArray) : n ++ (⟨#[47]⟩ : ByteArray) ++ d = ⟨(n.data.toList ++ 47 :: d.data.toList).toArray⟩ := by
  apply ByteArray.ext
  simp
set_option maxHeartbeats 400000 in
theorem rtext_any (n d : ByteArray) (hn : n.size ≤ 1073741824) (hd : d.size ≤ 1073741824) (w : World) :
    Calls Tryz.prog 48 #[.agg #[.string n, .string d]] w fun e w' => e = .returned (.string ⟨(txtL n.data.toList d.data.toList).toArray⟩) ∧ Below w.heap.size w w' := by
  have h1 : ¬ 9223372036854775807 < n.size + 1 := by omega
  have h2 : ¬ 9223372036854775807 < n.size + 1 + d.size := by omega
  by_cases h0 : d.data.toList = [49]
  · have e0 : (d.toList == [49]) = true := by rw [Lib.toList_data, h0]; rfl
    have HT : Hid (txtL n.data.toList d.data.toList = n.data.toList) := by show _ = _; unfold txtL; rw [if_pos h0]
    clear h0
    go_enter Tryz.func48, Tryz.ntmps48
    go_wp2
    go_ret
    exact ⟨ret_ba (by rw [HT.out]), (Below.refl _ _).alloc (Nat.le_refl _) _⟩
  · have e0 : (d.toList == [49]) = false := by rw [Lib.toList_data, beq_eq_false_iff_ne]; exact h0
    have HT : Hid (n ++ (⟨#[47]⟩ : ByteArray) ++ d = ⟨(txtL n.data.toList d.data.toList).toArray⟩) := by show _ = _; unfold txtL; rw [if_neg h0, cat_slash]
    clear h0
    go_enter Tryz.func48, Tryz.ntmps48
    go_wp2
    go_ret
    exact ⟨ret_ba HT.out, (Below.refl _ _).alloc (Nat.le_refl _) _⟩
end Go.Proofs.YtgjhgkglfflmjaaGreatDoor

/- Plain mathematics for layer 1: texts of integers as lists of bytes, no program. -/
import Derived.Lib.ItoaNum
import Derived.Lib.Strings
namespace Go.Proofs.YtlipjedofegciaaDoor
open Go

/-- A decimal digit. -/
def dgB (c : UInt8) : Bool := 48 ≤ c && c ≤ 57
/-- Without the sign. -/
def bod (l : List UInt8) : List UInt8 := Lib.trimPrefix l [45]
/-- It starts with a digit from 1 to 9. -/
def szB (l : List UInt8) : Bool := match l with
  | [] => false
  | c :: _ => 49 ≤ c && c ≤ 57
/-- All are digits. -/
def odB (l : List UInt8) : Bool := l.all dgB
/-- Check's answer. -/
def chk (l : List UInt8) : Int :=
  if l = [48] then 0 else if szB (bod l) && odB (bod l) then (if 1000 < (bod l).length then 14 else 0) else 12

theorem dgB_iff (c : UInt8) : dgB c = true ↔ 48 ≤ (c.toNat : Int) ∧ (c.toNat : Int) ≤ 57 := by
  unfold dgB; simp [UInt8.le_iff_toNat_le]; omega
theorem bod_length (l : List UInt8) : (bod l).length ≤ l.length := by
  unfold bod Lib.trimPrefix; split <;> simp
theorem getElem_toList (s : ByteArray) (k : Nat) (h : k < s.size) : s.data.toList[k]? = some s[k] := by
  rw [List.getElem?_eq_getElem (by simpa using h)]; rfl
theorem odB_false (s : ByteArray) (k : Nat) (h : k < s.size) (hc : ¬ (48 ≤ (s[k].toNat : Int) ∧ (s[k].toNat : Int) ≤ 57)) : odB s.data.toList = false := by
  unfold odB
  rw [Bool.eq_false_iff]
  intro ha
  have := List.all_eq_true.1 ha s[k] (List.mem_of_getElem? (getElem_toList s k h))
  exact hc ((dgB_iff _).1 this)
theorem odB_succ (s : ByteArray) (k : Nat) (h : k < s.size) (ha : odB (s.data.toList.take k) = true) (hc : 48 ≤ (s[k].toNat : Int) ∧ (s[k].toNat : Int) ≤ 57) : odB (s.data.toList.take (k + 1)) = true := by
  unfold odB at *
  rw [List.take_add_one, getElem_toList s k h, List.all_append, ha]
  simpa using (dgB_iff _).2 hc
theorem odB_all (s : ByteArray) (ha : odB (s.data.toList.take s.size) = true) : odB s.data.toList = true := by
  rwa [List.take_of_length_le (by simp)] at ha
theorem szB_nil (s : ByteArray) (h : s.size = 0) : szB s.data.toList = false := by
  have : s.data.toList = [] := List.eq_nil_of_length_eq_zero (by simpa using h)
  rw [this]; rfl
theorem szB_cons (s : ByteArray) (h : 0 < s.size) : szB s.data.toList = (decide ((49 : Int) ≤ (s[0].toNat : Int)) && decide ((s[0].toNat : Int) ≤ (57 : Int))) := by
  have h0 := getElem_toList s 0 h
  match hl : s.data.toList with
  | [] => rw [hl] at h0; simp at h0
  | c :: r =>
    rw [hl] at h0
    obtain rfl : c = s[0] := by simpa using h0
    unfold szB
    have e1 : ((49 : UInt8) ≤ s[0]) ↔ ((49 : Int) ≤ (s[0].toNat : Int)) := by rw [UInt8.le_iff_toNat_le]; simp; omega
    have e2 : (s[0] ≤ (57 : UInt8)) ↔ ((s[0].toNat : Int) ≤ (57 : Int)) := by rw [UInt8.le_iff_toNat_le]; simp; omega
    show (decide ((49 : UInt8) ≤ s[0]) && decide (s[0] ≤ (57 : UInt8))) = _
    rw [decide_eq_decide.2 e1, decide_eq_decide.2 e2]
theorem chk_cases (l : List UInt8) : chk l = 0 ∨ chk l = 12 ∨ chk l = 14 := by
  unfold chk
  split
  · exact .inl rfl
  · split
    · split
      · exact .inr (.inr rfl)
      · exact .inl rfl
    · exact .inr (.inl rfl)
/-- It has a sign. -/
def ngB (l : List UInt8) : Bool := l.head? == some 45
theorem bod_neg (b : List UInt8) : bod (45 :: b) = b := by simp [bod, Lib.trimPrefix, Lib.hasPrefix]
theorem bod_pos (l : List UInt8) (h : ngB l = false) : bod l = l := by
  match l with
  | [] => rfl
  | c :: r =>
    have hc : ¬ (45 = c) := fun e => by simp [ngB, ← e] at h
    simp [bod, Lib.trimPrefix, Lib.hasPrefix, List.isPrefixOf, hc]
/-- A digit's value. -/
def dv (c : UInt8) : Nat := c.toNat - 48
/-- The digits, the last one first. -/
def dgs (b : List UInt8) : List Nat := b.reverse.map dv
theorem dgs_length (b : List UInt8) : (dgs b).length = b.length := by simp [dgs]
theorem dgs_snoc (b : List UInt8) (k : Nat) (h : k < b.length) : (dgs b).take (k + 1) = (dgs b).take k ++ [dv (b[b.length - 1 - k]'(by omega))] := by
  have hk : k < (dgs b).length := by rw [dgs_length]; exact h
  rw [List.take_add_one, List.getElem?_eq_getElem hk]
  simp [dgs]
end Go.Proofs.YtlipjedofegciaaDoor

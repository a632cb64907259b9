/- Layer 7: the reference's walks: Name, Unit, power. -/
import Derived.Test.YtalnfbgaiegicaaMoA
namespace Go.Proofs.Ytalnfbgaiegicaa
open Go Go.RowKit

/-- May a byte stand there in a name? -/
def okC (k : Nat) (c : UInt8) : Bool := if k = 0 then alphaB c else nextB c
theorem alpha_iff (c : UInt8) : alphaB c = true ↔ (65 ≤ (c.toNat : Int) ∧ (c.toNat : Int) ≤ 90) ∨ (97 ≤ (c.toNat : Int) ∧ (c.toNat : Int) ≤ 122) := by
  unfold alphaB
  rw [Bool.or_eq_true, Bool.and_eq_true, Bool.and_eq_true, decide_eq_true_eq, decide_eq_true_eq, decide_eq_true_eq, decide_eq_true_eq]
  simp only [UInt8.le_iff_toNat_le]
  have e1 : (65 : UInt8).toNat = 65 := rfl
  have e2 : (90 : UInt8).toNat = 90 := rfl
  have e3 : (97 : UInt8).toNat = 97 := rfl
  have e4 : (122 : UInt8).toNat = 122 := rfl
  omega
theorem next_iff (c : UInt8) : nextB c = true ↔ alphaB c = true ∨ (48 ≤ (c.toNat : Int) ∧ (c.toNat : Int) ≤ 57) ∨ (c.toNat : Int) = 95 ∨ (c.toNat : Int) = 45 := by
  unfold nextB
  rw [Bool.or_eq_true, Bool.or_eq_true, Bool.or_eq_true, Bool.and_eq_true, decide_eq_true_eq, decide_eq_true_eq, beq_iff_eq, beq_iff_eq]
  simp only [UInt8.le_iff_toNat_le, ← UInt8.toNat_inj]
  have e1 : (48 : UInt8).toNat = 48 := rfl
  have e2 : (57 : UInt8).toNat = 57 := rfl
  have e3 : (95 : UInt8).toNat = 95 := rfl
  have e4 : (45 : UInt8).toNat = 45 := rfl
  rw [e1, e2, e3, e4]
  constructor
  · rintro (((h | h) | h) | h)
    · exact .inl h
    · exact .inr (.inl (by omega))
    · exact .inr (.inr (.inl (by omega)))
    · exact .inr (.inr (.inr (by omega)))
  · rintro (h | h | h | h)
    · exact .inl (.inl (.inl h))
    · exact .inl (.inl (.inr (by omega)))
    · exact .inl (.inr (by omega))
    · exact .inr (by omega)
theorem name_iff (s : ByteArray) : nameB s.data.toList = true ↔ (1 ≤ s.size ∧ s.size ≤ 40) ∧ ∀ k (h : k < s.size), okC k s[k] = true := by
  have hl : s.data.toList.length = s.size := by simp
  have hg : ∀ k (h : k < s.size), s.data.toList[k]? = some s[k] := fun k h => getElem_toList s k h
  unfold nameB
  rw [Bool.and_eq_true, decide_eq_true_eq, hl]
  cases h : s.data.toList with
  | nil =>
    rw [h] at hl
    constructor
    · rintro ⟨-, g⟩; cases g
    · rintro ⟨⟨g, -⟩, -⟩; simp at hl; omega
  | cons c r =>
    rw [h] at hl hg
    simp only [List.length_cons] at hl
    simp only [Bool.and_eq_true, List.all_eq_true]
    constructor
    · rintro ⟨h1, h2, h3⟩
      refine ⟨⟨by omega, h1⟩, fun k hk => ?_⟩
      have := hg k hk
      unfold okC
      cases k with
      | zero => rw [if_pos rfl]; simp at this; rw [← this]; exact h2
      | succ k =>
        rw [if_neg (by omega)]
        rw [List.getElem?_cons_succ] at this
        exact h3 _ (List.mem_of_getElem? this)
    · rintro ⟨⟨h1, h2⟩, h3⟩
      refine ⟨h2, ?_, fun x hx => ?_⟩
      · have := hg 0 (by omega)
        have h4 := h3 0 (by omega)
        unfold okC at h4
        rw [if_pos rfl] at h4
        simp at this
        rw [this]; exact h4
      · obtain ⟨k, hk, rfl⟩ := List.getElem_of_mem hx
        have := hg (k + 1) (by omega)
        have h4 := h3 (k + 1) (by omega)
        unfold okC at h4
        rw [if_neg (by omega)] at h4
        rw [List.getElem?_cons_succ, List.getElem?_eq_getElem hk] at this
        injection this with this
        rw [this]; exact h4
/-- The same of a byte's number. -/
def okI (k : Nat) (x : Int) : Bool := decide (65 ≤ x ∧ x ≤ 90) || decide (97 ≤ x ∧ x ≤ 122) || (decide (k ≠ 0) && (decide (48 ≤ x ∧ x ≤ 57) || decide (x = 95) || decide (x = 45)))
theorem okI_of (k : Nat) (c : UInt8) (x : Int) (hx : (c.toNat : Int) = x) : okC k c = okI k x := by
  have h1 := alpha_iff c
  have h2 := next_iff c
  rw [hx] at h1 h2
  have h3 : okC k c = true ↔ okI k x = true := by
    unfold okC okI
    simp only [Bool.or_eq_true, Bool.and_eq_true, decide_eq_true_eq]
    split
    · next e => rw [h1]; omega
    · next e => rw [h2, h1]; omega
  cases ha : okC k c <;> cases hb : okI k x <;> simp_all
theorem cls (x : Int) : (x < 45) ∨ (x = 45) ∨ (45 < x ∧ x < 48) ∨ (48 ≤ x ∧ x ≤ 57) ∨ (57 < x ∧ x < 65) ∨ (65 ≤ x ∧ x ≤ 90) ∨ (90 < x ∧ x < 95) ∨ (x = 95) ∨ (95 < x ∧ x < 97) ∨ (97 ≤ x ∧ x ≤ 122) ∨ (122 < x) := by omega
end Go.Proofs.Ytalnfbgaiegicaa

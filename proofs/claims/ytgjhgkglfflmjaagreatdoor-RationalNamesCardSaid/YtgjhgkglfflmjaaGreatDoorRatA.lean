/- Layer 2: texts of rationals: where they are cut, what is wrong with them. -/
import Derived.Test.YtgjhgkglfflmjaaGreatDoorIntA8
import Derived.Lib.IndexMore
namespace Go.Proofs.YtgjhgkglfflmjaaGreatDoor
open Go Go.RowKit

/-- What stands before and behind the first slash. -/
def spl : List UInt8 → Option (List UInt8 × List UInt8)
  | [] => none
  | c :: r => if c = 47 then some ([], r) else (spl r).map fun p => (c :: p.1, p.2)
theorem spl_cut (l : List UInt8) : Lib.cut l [47] = match spl l with | some (a, b) => (a, b, true) | none => (l, [], false) := by
  have h : ∀ l : List UInt8, match spl l with | some (a, b) => Lib.index l [47] = (a.length : Int) ∧ l = a ++ 47 :: b | none => Lib.index l [47] = -1 := by
    intro l
    induction l with
    | nil => rfl
    | cons c r ih =>
      unfold spl Lib.index
      by_cases h : c = 47
      · subst h
        rw [if_pos rfl, if_pos (by simp)]
        exact ⟨rfl, rfl⟩
      · have h2 : ¬ (List.isPrefixOf [47] (c :: r) = true) := by
          simp only [List.isPrefixOf, Bool.and_eq_true, beq_iff_eq, not_and]
          exact fun e => absurd e.symm h
        rw [if_neg h, if_neg h2]
        cases hs : spl r with
        | none =>
          rw [hs] at ih
          simp only [Option.map_none]
          rw [ih]; rfl
        | some p =>
          obtain ⟨a, b⟩ := p
          rw [hs] at ih
          simp only [Option.map_some]
          obtain ⟨i1, i2⟩ := ih
          rw [i1, if_neg (by simp)]
          refine ⟨by simp, by rw [i2]; rfl⟩
  have hl := h l
  unfold Lib.cut
  cases hs : spl l with
  | none => rw [hs] at hl; simp only at hl; rw [hl, if_neg (by decide)]
  | some p =>
    obtain ⟨a, b⟩ := p
    rw [hs] at hl
    simp only at hl
    obtain ⟨h1, h2⟩ := hl
    rw [h1, if_pos (by omega), Int.toNat_natCast, h2]
    simp
theorem spl_at (l : List UInt8) : ∀ k, (∀ c ∈ l.take k, c ≠ 47) → l[k]? = some 47 → spl l = some (l.take k, l.drop (k + 1)) := by
  induction l with
  | nil => intro k _ h; simp at h
  | cons c r ih =>
    intro k h1 h2
    cases k with
    | zero =>
      simp only [List.getElem?_cons_zero, Option.some.injEq] at h2
      unfold spl
      rw [if_pos h2]; rfl
    | succ k =>
      have hc : c ≠ 47 := h1 c (by simp)
      unfold spl
      rw [if_neg hc, ih k (fun d hd => h1 d (by simp [hd])) (by simpa using h2)]
      rfl
theorem spl_none (l : List UInt8) (h : ∀ c ∈ l, c ≠ 47) : spl l = none := by
  induction l with
  | nil => rfl
  | cons c r ih =>
    unfold spl
    rw [if_neg (h c (by simp)), ih fun d hd => h d (by simp [hd])]; rfl
theorem spl_len {l a b : List UInt8} (h : spl l = some (a, b)) : l.length = a.length + 1 + b.length ∧ l.take a.length = a ∧ l.drop (a.length + 1) = b := by
  induction l generalizing a b with
  | nil => simp [spl] at h
  | cons c r ih =>
    unfold spl at h
    by_cases hc : c = 47
    · rw [if_pos hc] at h
      obtain ⟨rfl, rfl⟩ : [] = a ∧ r = b := by simpa using h
      simp
      omega
    · rw [if_neg hc] at h
      cases hs : spl r with
      | none => rw [hs] at h; simp at h
      | some p =>
        obtain ⟨a', b'⟩ := p
        rw [hs] at h
        obtain ⟨rfl, rfl⟩ : c :: a' = a ∧ b' = b := by simpa using h
        obtain ⟨h1, h2, h3⟩ := ih hs
        refine ⟨by simp; omega, by simp [h2], ?_⟩
        simpa using h3
def nB (l : List UInt8) : List UInt8 := match spl l with | some (a, _) => a | none => l
def dB (l : List UInt8) : List UInt8 := match spl l with | some (_, b) => b | none => [49]
def hB (l : List UInt8) : Bool := (spl l).isSome
def slS (l : List UInt8) : Int := match spl l with | some (a, _) => (a.length : Int) | none => -1
/-- Greater than 1, of a canonical integer. -/
def okD (d : List UInt8) : Bool := !ngB d && !(d == [48]) && !(d == [49])
/-- What Check answers. -/
def chkR (l : List UInt8) : Int :=
  if chk (nB l) = 12 ∨ chk (dB l) = 12 ∨ (hB l = true ∧ okD (dB l) = false) then 12
  else if ¬ chk (nB l) = 0 ∨ ¬ chk (dB l) = 0 then 14
  else if hB l = true ∧ ¬ Nat.gcd (num (nB l)).natAbs (num (dB l)).natAbs = 1 then 12 else 0
theorem nB_len (l : List UInt8) : (nB l).length ≤ l.length := by
  unfold nB
  cases h : spl l with
  | none => exact Nat.le_refl _
  | some p => obtain ⟨a, b⟩ := p; have := (spl_len h).1; simp only; omega
theorem dB_len (l : List UInt8) : (dB l).length ≤ l.length + 1 := by
  unfold dB
  cases h : spl l with
  | none => simp
  | some p => obtain ⟨a, b⟩ := p; have := (spl_len h).1; simp only; omega
theorem chk_one : chk [49] = 0 := by decide +kernel
theorem num_one : num [49] = 1 := by decide +kernel
theorem dB_plain {l : List UInt8} (h : hB l = false) : dB l = [49] := by
  unfold hB at h
  unfold dB
  cases hs : spl l with
  | none => rfl
  | some p => rw [hs] at h; simp at h
theorem okD_num {d : List UInt8} (hd : chk d = 0) : okD d = true ↔ 1 < num d := by
  have h := itoa_zero_num d hd
  unfold okD
  constructor
  · intro h1
    simp only [Bool.and_eq_true, Bool.not_eq_true', beq_eq_false_iff_ne] at h1
    obtain ⟨⟨h2, h3⟩, h4⟩ := h1
    have h5 := (ng_num hd).2 h2
    have h6 : num d ≠ 0 := fun e => h3 (by rw [h, e]; exact itoa_zero)
    have h7 : num d ≠ 1 := fun e => h4 (by rw [h, e]; decide +kernel)
    omega
  · intro h1
    simp only [Bool.and_eq_true, Bool.not_eq_true', beq_eq_false_iff_ne]
    refine ⟨⟨?_, ?_⟩, ?_⟩
    · cases hn : ngB d
      · rfl
      · have := (ng_num hd).1 hn; omega
    · intro e; rw [e, show num [48] = 0 by decide +kernel] at h1; omega
    · intro e; rw [e, num_one] at h1; omega
/-- A text of a canonical rational: its parts. -/
theorem chkR_zero {l : List UInt8} (h : chkR l = 0) : chk (nB l) = 0 ∧ chk (dB l) = 0 ∧ 1 ≤ num (dB l) ∧ Nat.gcd (num (nB l)).natAbs (num (dB l)).natAbs = 1 ∧ (hB l = true ↔ 1 < num (dB l)) := by
  unfold chkR at h
  split at h
  · cases h
  · next h1 =>
    split at h
    · cases h
    · next h2 =>
      split at h
      · cases h
      · next h3 =>
        have a1 : chk (nB l) = 0 := Classical.byContradiction fun e => h2 (.inl e)
        have a2 : chk (dB l) = 0 := Classical.byContradiction fun e => h2 (.inr e)
        cases hh : hB l
        · have e := dB_plain hh
          rw [e, num_one]
          refine ⟨a1, chk_one, by omega, by simp, by simp⟩
        · have ho : okD (dB l) = true := by
            cases ho : okD (dB l)
            · exact absurd (.inr (.inr ⟨hh, ho⟩)) h1
            · rfl
          have hn := (okD_num a2).1 ho
          refine ⟨a1, a2, by omega, Classical.byContradiction fun e => h3 ⟨hh, e⟩, by simp [hn]⟩
end Go.Proofs.YtgjhgkglfflmjaaGreatDoor

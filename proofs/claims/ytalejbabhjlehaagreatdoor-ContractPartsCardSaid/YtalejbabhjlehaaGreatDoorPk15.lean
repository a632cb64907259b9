/- Joined: RatA, RatM. -/
import Derived.Test.YtalejbabhjlehaaGreatDoorPk14
import Derived.Test.YtalejbabhjlehaaGreatDoorShelf2
import Derived.Lib.IndexMore
/- Joined: RatA, RatB, RatC, RatD. -/
/- Layer 2: texts of rationals: where they are cut, what is wrong with them. -/
namespace Go.Proofs.YtalejbabhjlehaaGreatDoor
open Go Go.RowKit
def spl : List UInt8 → Option (List UInt8 × List UInt8)
  | [] => none
  | c :: r => if c = 47 then some ([], r) else (spl r).map fun p => (c :: p.1, p.2)
theorem spl_cut (l : List UInt8) : Lib.cut l [47] = match spl l with | some (a, b) => (a, b, true) | none => (l, [], false) := by
  have h : ∀ l : List UInt8, match spl l with | some (a, b) => Lib.index l [47] = (a.length : Int) ∧ l = a ++ 47 :: b | none => Lib.index l [47] = -1 := by
    intro l
    induction l with
    | nil => rfl
    | cons c r ih =>
      unfold spl Lib.index
      by_cases h : c = 47
      · subst h
        rw [if_pos rfl, if_pos (by simp)]
        exact ⟨rfl, rfl⟩
      · have h2 : ¬ (List.isPrefixOf [47] (c :: r) = true) := by
          simp only [List.isPrefixOf, Bool.and_eq_true, beq_iff_eq, not_and]
          exact fun e => absurd e.symm h
        rw [if_neg h, if_neg h2]
        cases hs : spl r with
        | none =>
          rw [hs] at ih
          simp only [Option.map_none]
          rw [ih]; rfl
        | some p =>
          obtain ⟨a, b⟩ := p
          rw [hs] at ih
          simp only [Option.map_some]
          obtain ⟨i1, i2⟩ := ih
          rw [i1, if_neg (by simp)]
          refine ⟨by simp, by rw [i2]; rfl⟩
  have hl := h l
  unfold Lib.cut
  cases hs : spl l with
  | none => rw [hs] at hl; simp only at hl; rw [hl, if_neg (by decide)]
  | some p =>
    obtain ⟨a, b⟩ := p
    rw [hs] at hl
    simp only at hl
    obtain ⟨h1, h2⟩ := hl
    rw [h1, if_pos (by omega), Int.toNat_natCast, h2]
    simp
theorem spl_len {l a b : List UInt8} (h : spl l = some (a, b)) : l.length = a.length + 1 + b.length ∧ l.take a.length = a ∧ l.drop (a.length + 1) = b := by
  induction l generalizing a b with
  | nil => simp [spl] at h
  | cons c r ih =>
    unfold spl at h
    by_cases hc : c = 47
    · rw [if_pos hc] at h
      obtain ⟨rfl, rfl⟩ : [] = a ∧ r = b := by simpa using h
      simp
      omega
    · rw [if_neg hc] at h
      cases hs : spl r with
      | none => rw [hs] at h; simp at h
      | some p =>
        obtain ⟨a', b'⟩ := p
        rw [hs] at h
        obtain ⟨rfl, rfl⟩ : c :: a' = a ∧ b' = b := by simpa using h
        obtain ⟨h1, h2, h3⟩ := ih hs
        refine ⟨by simp; omega, by simp [h2], ?_⟩
        simpa using h3
def nB (l : List UInt8) : List UInt8 := match spl l with | some (a, _) => a | none => l
def dB (l : List UInt8) : List UInt8 := match spl l with | some (_, b) => b | none => [49]
def hB (l : List UInt8) : Bool := (spl l).isSome
def okD (d : List UInt8) : Bool := !ngB d && !(d == [48]) && !(d == [49])
def chkR (l : List UInt8) : Int :=
  if chk (nB l) = 12 ∨ chk (dB l) = 12 ∨ (hB l = true ∧ okD (dB l) = false) then 12
  else if ¬ chk (nB l) = 0 ∨ ¬ chk (dB l) = 0 then 14
  else if hB l = true ∧ ¬ Nat.gcd (num (nB l)).natAbs (num (dB l)).natAbs = 1 then 12 else 0
theorem nB_len (l : List UInt8) : (nB l).length ≤ l.length := by
  unfold nB
  cases h : spl l with
  | none => exact Nat.le_refl _
  | some p => obtain ⟨a, b⟩ := p; have := (spl_len h).1; simp only; omega
theorem dB_len (l : List UInt8) : (dB l).length ≤ l.length + 1 := by
  unfold dB
  cases h : spl l with
  | none => simp
  | some p => obtain ⟨a, b⟩ := p; have := (spl_len h).1; simp only; omega
theorem chk_one : chk [49] = 0 := by decide +kernel
theorem dB_plain {l : List UInt8} (h : hB l = false) : dB l = [49] := by
  unfold hB at h
  unfold dB
  cases hs : spl l with
  | none => rfl
  | some p => rw [hs] at h; simp at h
end Go.Proofs.YtalejbabhjlehaaGreatDoor
/- The walks of layer 2: signs, divisors, texts. -/
namespace Go.Proofs.YtalejbabhjlehaaGreatDoor
open Go Go.RowKit
theorem hasPrefix_ng (l : List UInt8) : Lib.hasPrefix l [45] = ngB l := by
  cases l with
  | nil => rfl
  | cons c r =>
    unfold Lib.hasPrefix ngB
    rw [Bool.eq_iff_iff]
    simp only [List.isPrefixOf, List.head?_cons, Bool.and_true, beq_iff_eq, Option.some.injEq]
    exact ⟨fun h => h.symm, fun h => h.symm⟩
theorem negative_any' (s : ByteArray) (b : Bool) (hb : ngB s.data.toList = b) (w : World) :
    Calls Tryz.prog 147 #[.string s] w fun e w' => e = .returned (.bool b) ∧ w = w' := by
  have HP := Tryz.strings_HasPrefix s ⟨#[45]⟩ w
  rw [show (⟨#[45]⟩ : ByteArray).data.toList = [45] from rfl, hasPrefix_ng, hb] at HP
  have HP := Lib.hid HP
  clear hb
  go_enter Tryz.func147, Tryz.ntmps147
  go_wp2_with (go_at_call 154; refine HP.out.mono ?_; rintro e w1 ⟨rfl, rfl⟩)
  go_ret
  exact ⟨rfl, rfl⟩
set_option maxHeartbeats 400000 in
theorem aboveOne_any (s : ByteArray) (b : Bool) (hb : okD s.data.toList = b) (w : World) :
    Calls Tryz.prog 136 #[.string s] w fun e w' => e = .returned (.bool b) ∧ w = w' := by
  obtain ⟨g, hg⟩ : ∃ g, ngB s.data.toList = g := ⟨_, rfl⟩
  have HN := Lib.hid (fun W => negative_any' s g hg W)
  obtain ⟨z, hz⟩ : ∃ z, (s.toList == [48]) = z := ⟨_, rfl⟩
  obtain ⟨o, ho⟩ : ∃ o, (s.toList == [49]) = o := ⟨_, rfl⟩
  have HB : Hid ((!g && !z && !o) = b) := by
    show _ = _
    rw [← hb, ← hg, ← hz, ← ho, Lib.toList_data]; rfl
  clear hb hg
  cases g <;> cases z <;> cases o
  all_goals
    go_enter Tryz.func136, Tryz.ntmps136
    go_wp2_with (go_at_call 147; refine (HN.out _).mono ?_; rintro e w1 ⟨rfl, rfl⟩)
    go_ret
    exact ⟨ret_bool HB.out, rfl⟩
theorem divisor_any (s t : ByteArray) (hs : s.size ≤ maxLen) (ht : t.size ≤ maxLen) (r : List UInt8 × Int) (hr : gcS s.data.toList t.data.toList = r) (w : World) (hv : VarT w) :
    Calls Tryz.prog 137 #[.string s, .string t] w fun e w' => e = .returned (.string ⟨r.1.toArray⟩) ∧ Below w.heap.size w w' := by
  have HG := gcd_any s t hs ht w hv
  rw [hr] at HG
  have HG := Lib.hid HG
  clear hr hs ht hv
  go_enter Tryz.func137, Tryz.ntmps137
  go_wp2_with (go_at_call 148; refine HG.out.mono ?_; rintro e w1 ⟨rfl, hb1⟩)
  go_ret
  exact ⟨rfl, hb1⟩
end Go.Proofs.YtalejbabhjlehaaGreatDoor
/- The walks of layer 2: the reduced fraction. -/
namespace Go.Proofs.YtalejbabhjlehaaGreatDoor
open Go Go.RowKit
theorem row_far {w w1 : World} {r : Nat} {t : TypeId} {cs : Array Value} (h : w.heap[r]? = some (.cells cs t (0, 0))) (hb : Below w.heap.size w w1) : w1.heap[r]? = some (.cells cs t (0, 0)) := (hb.block r (lt_of_block h)).trans h
end Go.Proofs.YtalejbabhjlehaaGreatDoor
/- The walks of layer 2: Make, Ratio, Of. -/
namespace Go.Proofs.YtalejbabhjlehaaGreatDoor
open Go Go.RowKit
section
variable (s t : ByteArray) (hs : s.size ≤ maxLen) (ht : t.size ≤ maxLen) (w : World) (hv : VarT w)
include hs ht hv
end
end Go.Proofs.YtalejbabhjlehaaGreatDoor
/- Joined: RatM, RatO, RatN. -/
/- Layer 2: texts of rationals and the rational numbers themselves. No walk. -/
namespace Go.Proofs.YtalejbabhjlehaaGreatDoor
open Go Go.RowKit
end Go.Proofs.YtalejbabhjlehaaGreatDoor
/- Layer 2: the order of rational numbers. No walk. -/
namespace Go.Proofs.YtalejbabhjlehaaGreatDoor
open Go Go.RowKit
end Go.Proofs.YtalejbabhjlehaaGreatDoor
/- Layer 2: what the operations on rationals answer. No walk. -/
namespace Go.Proofs.YtalejbabhjlehaaGreatDoor
open Go Go.RowKit
def LB (z : Int) : Bool := decide (z.natAbs < lim)
end Go.Proofs.YtalejbabhjlehaaGreatDoor

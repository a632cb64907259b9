/- Joined: RatAc, RatAd, RatAe. -/
import Derived.Test.YtpgfadkkfofhcaaGreatDoorRatAa
import Derived.Laws.EntriesVeiled
/- The walks of layer 2: the rules of rounding. -/
namespace Go.Proofs.YtpgfadkkfofhcaaGreatDoor
open Go Go.RowKit

/-- Does rule m round up a number below or above 0, with an odd floor, whose rest compares so to what is left? -/
def upB (m : Nat) (neg odd : Bool) (mid : Int) : Bool :=
  match m with
  | 0 => neg
  | 1 => !neg
  | 2 => decide (0 < mid) || (decide (mid = 0) && !neg)
  | 3 => decide (0 < mid) || (decide (mid = 0) && odd)
  | _ => false
def BoA (b : Bool) (w : World) (e : Ending) (w' : World) : Prop := e = .returned (.bool b) ∧ Below w.heap.size w w'
end Go.Proofs.YtpgfadkkfofhcaaGreatDoor
/- The walks of layer 2: round, Round. -/
namespace Go.Proofs.YtpgfadkkfofhcaaGreatDoor
open Go Go.RowKit

end Go.Proofs.YtpgfadkkfofhcaaGreatDoor
/- Layer 2: rounding: what it answers. -/
namespace Go.Proofs.YtpgfadkkfofhcaaGreatDoor
open Go Go.RowKit

/-- The last byte of an integer's text tells whether it is odd. -/
theorem last_list (z : Int) : ∃ (p : List UInt8) (c : UInt8), Lib.itoa z = p ++ [c] ∧ 48 ≤ c.toNat ∧ c.toNat ≤ 57 ∧ (((c.toNat : Int) - 48) % 2 == 1) = decide (z % 2 = 1) := by
  have h12 : ¬ chk (Lib.itoa z) = 12 := by rw [chk_itoa]; split <;> decide
  have hn := num_itoa z
  rcases can_cases _ h12 with h | ⟨h1, h2⟩
  · rw [h] at hn
    have hz : z = 0 := by rw [← hn]; decide +kernel
    exact ⟨[], 48, h, by decide, by decide, by rw [hz]; rfl⟩
  · have hb : bod (Lib.itoa z) ≠ [] := by intro e; rw [e] at h1; cases h1
    obtain ⟨p, c, hp⟩ : ∃ p c, bod (Lib.itoa z) = p ++ [c] := ⟨_, _, (List.dropLast_concat_getLast hb).symm⟩
    have hc : dgB c = true := by rw [hp] at h2; exact List.all_eq_true.1 h2 c (by simp)
    obtain ⟨c1, c2⟩ := (dgB_iff c).1 hc
    have hd : ∃ k : Nat, vl 10 (dgs (bod (Lib.itoa z))) = (c.toNat - 48) + 10 * k := by
      rw [hp]
      refine ⟨vl 10 (dgs p), ?_⟩
      unfold dgs
      rw [List.reverse_append, List.map_append]
      rfl
    obtain ⟨k, hk⟩ := hd
    have hpar : (((c.toNat : Int) - 48) % 2 == 1) = decide (z % 2 = 1) := by
      rw [Bool.eq_iff_iff, beq_iff_eq, decide_eq_true_iff]
      unfold num at hn
      split at hn <;> omega
    cases hg : ngB (Lib.itoa z)
    · rw [bod_pos _ hg] at hp
      exact ⟨p, c, hp, by omega, by omega, hpar⟩
    · have e := neg_cons _ hg
      rw [hp] at e
      exact ⟨45 :: p, c, by rw [e]; rfl, by omega, by omega, hpar⟩
/-- Is the rational rounded up to the integer above its floor? -/
def rndUp (m : Nat) (q : Rat) : Bool := upB m (decide (q.num < 0)) (decide ((q.num / q.den) % 2 = 1)) (cmpZ (q.num % q.den) (q.den - q.num % q.den))
/-- What Round answers. -/
def rndQ (m : Nat) (q : Rat) : Int := if q.num % q.den = 0 then q.num / q.den else if rndUp m q = true then q.num / q.den + 1 else q.num / q.den
theorem floor_up {n d : Int} (hd : 0 < d) (hr : n % d ≠ 0) : (n / d + 1).natAbs ≤ n.natAbs := by
  have h0 := Int.emod_nonneg n (show d ≠ 0 by omega)
  have h1 := Int.emod_lt_of_pos n hd
  have h2 := Int.mul_ediv_add_emod n d
  have hd2 : 2 ≤ d := by omega
  generalize n / d = f at *
  generalize n % d = r at *
  rcases Int.lt_or_le f 0 with h | h
  · have h3 := Int.mul_le_mul_of_nonpos_right (show 1 ≤ d by omega) (show f + 1 ≤ 0 by omega)
    rw [Int.mul_add] at h3
    omega
  · have : 2 * f ≤ d * f := Int.mul_le_mul_of_nonneg_right hd2 h
    omega
theorem rnd_lims {q : Rat} (h : Sml q) : (q.num / q.den).natAbs < lim ∧ (q.num % q.den).natAbs < lim ∧ ((q.den : Int) - q.num % q.den).natAbs < lim := by
  have hd := q.den_pos
  have h0 := Int.emod_nonneg q.num (den_ne q)
  have h1 := Int.emod_lt_of_pos q.num (show 0 < (q.den : Int) by omega)
  have h2 := h.2
  exact ⟨Nat.lt_of_le_of_lt (Int.natAbs_ediv_le_natAbs _ _) h.1, by omega, by omega⟩
theorem rndQ_abs (m : Nat) {q : Rat} (h : Sml q) : (rndQ m q).natAbs < lim := by
  obtain ⟨h1, _, _⟩ := rnd_lims h
  have hd := q.den_pos
  unfold rndQ
  split
  · exact h1
  · next hr =>
    split
    · exact Nat.lt_of_le_of_lt (floor_up (by omega) hr) h.1
    · exact h1
theorem cmp_three (x y : Int) : cmpZ x y = -1 ∨ cmpZ x y = 0 ∨ cmpZ x y = 1 := by
  rcases cmpZ_tri x y with ⟨_, h⟩ | ⟨_, h⟩ | ⟨_, h⟩
  · exact .inl h
  · exact .inr (.inl h)
  · exact .inr (.inr h)
theorem rep_is_zero (y : Int) : ((rep y).toList == [48]) = decide (y = 0) := by
  rw [Lib.toList_data, rep_data, Bool.eq_iff_iff, beq_iff_eq, decide_eq_true_iff, ← itoa_zero]
  exact ⟨fun h => itoa_inj h, fun h => by rw [h]⟩
theorem sub_rep {x y z : Int} (hx : x.natAbs < lim) (hy : y.natAbs < lim) (hz : x - y = z) (hl : z.natAbs < lim) (w : World) (hv : VarT w) : Calls Tryz.prog 94 #[.string (rep x), .string (rep y)] w (StE (rep z) 0 w) := by
  subst hz
  have h := sub_lims hx hy w hv
  rw [LB_true.2 hl, if_pos rfl, if_pos rfl] at h
  exact h
theorem add_rep {x y z : Int} (hx : x.natAbs < lim) (hy : y.natAbs < lim) (hz : x + y = z) (hl : z.natAbs < lim) (w : World) (hv : VarT w) : Calls Tryz.prog 56 #[.string (rep x), .string (rep y)] w (StE (rep z) 0 w) := by
  subst hz
  have h := add_lims hx hy w hv
  rw [LB_true.2 hl, if_pos rfl, if_pos rfl] at h
  exact h
/-- Round of a text, by any rule. -/
def roC (m : Int) (l : List UInt8) : Int := if 5 ≤ m then 2 else chkR l
def roT (m : Int) (l : List UInt8) : ByteArray := if roC m l = 0 then rep (rndQ m.toNat (qv l)) else ⟨#[]⟩
end Go.Proofs.YtpgfadkkfofhcaaGreatDoor

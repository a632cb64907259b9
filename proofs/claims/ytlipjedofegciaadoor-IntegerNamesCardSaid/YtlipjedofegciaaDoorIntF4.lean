/- Layer 1: the operations on integers as their texts: DivMod, Gcd, Compare. -/
import Derived.Test.YtlipjedofegciaaDoorIntL4
namespace Go.Proofs.YtlipjedofegciaaDoor
open Go Go.RowKit

theorem bothE_rep {x y : Int} (hx : x.natAbs < lim) (hy : y.natAbs < lim) : bothE (rep x).data.toList (rep y).data.toList = 0 := by
  rw [rep_data, rep_data]; unfold bothE; rw [if_pos (chk_of_abs hx)]; exact chk_of_abs hy
theorem dmS_rep {x y q r : Int} (hx : x.natAbs < lim) (hy : y.natAbs < lim) (h0 : y ≠ 0) (hq : x / y = q) (hr : x % y = r) : dmS (rep x).data.toList (rep y).data.toList = (Lib.itoa q, Lib.itoa r, 0) := by
  subst hq; subst hr
  rw [dmS_ok (bothE_rep hx hy) (by rw [rep_data, num_itoa]; exact h0), rep_data, rep_data, num_itoa, num_itoa]
theorem dmS_rep0 {x y : Int} (hx : x.natAbs < lim) (hy : y.natAbs < lim) (h0 : y = 0) : dmS (rep x).data.toList (rep y).data.toList = ([], [], 16) :=
  dmS_zero (bothE_rep hx hy) (by rw [rep_data, num_itoa]; exact h0)
theorem gcS_rep {x y g : Int} (hx : x.natAbs < lim) (hy : y.natAbs < lim) (hg : ((Nat.gcd x.natAbs y.natAbs : Nat) : Int) = g) : gcS (rep x).data.toList (rep y).data.toList = (Lib.itoa g, 0) := by
  subst hg
  rw [gcS_ok (bothE_rep hx hy), rep_data, rep_data, num_itoa, num_itoa]
theorem cmpS_rep {x y c : Int} (hx : x.natAbs < lim) (hy : y.natAbs < lim) (hc : cmpZ x y = c) : cmpS (rep x).data.toList (rep y).data.toList = (c, 0) := by
  subst hc
  unfold cmpS
  rw [if_pos (bothE_rep hx hy), rep_data, rep_data, num_itoa, num_itoa]
def TwoR (q r : ByteArray) (e0 : Int) (w : World) (e : Ending) (w' : World) : Prop := e = .returned (.tuple #[.string q, .string r, .int .i64 e0]) ∧ Below w.heap.size w w'
def OneR (g : ByteArray) (w : World) (e : Ending) (w' : World) : Prop := e = .returned (.tuple #[.string g, .int .i64 0]) ∧ Below w.heap.size w w'
def CmpR (c : Int) (w : World) (e : Ending) (w' : World) : Prop := e = .returned (.tuple #[.int .i64 c, .int .i64 0]) ∧ Below w.heap.size w w'

section
variable {x y : Int} (hx : x.natAbs < lim) (hy : y.natAbs < lim)
include hx hy
theorem divmod_rep {q r : Int} (h0 : y ≠ 0) (hq : x / y = q) (hr : x % y = r) (s t u v : ByteArray) (hs : rep x = s) (ht : rep y = t) (hu : rep q = u) (hv' : rep r = v) (w : World) (hv : VarT w) : Calls Tryd.prog 17 #[.string s, .string t] w (TwoR u v 0 w) := by
  subst hs; subst ht; subst hu; subst hv'
  have h := divmod_any (rep x) (rep y) (rep_size hx) (rep_size hy) w hv
  rw [dmS_rep hx hy h0 hq hr] at h
  exact h
theorem divmod_rep0 (h0 : y = 0) (s t : ByteArray) (hs : rep x = s) (ht : rep y = t) (w : World) (hv : VarT w) : Calls Tryd.prog 17 #[.string s, .string t] w (TwoR ⟨#[]⟩ ⟨#[]⟩ 16 w) := by
  subst hs; subst ht
  have h := divmod_any (rep x) (rep y) (rep_size hx) (rep_size hy) w hv
  rw [dmS_rep0 hx hy h0] at h
  exact h
theorem gcd_rep {g : Int} (hg : ((Nat.gcd x.natAbs y.natAbs : Nat) : Int) = g) (s t u : ByteArray) (hs : rep x = s) (ht : rep y = t) (hu : rep g = u) (w : World) (hv : VarT w) : Calls Tryd.prog 18 #[.string s, .string t] w (OneR u w) := by
  subst hs; subst ht; subst hu
  have h := gcd_any (rep x) (rep y) (rep_size hx) (rep_size hy) w hv
  rw [gcS_rep hx hy hg] at h
  exact h
theorem compare_rep {c : Int} (hc : cmpZ x y = c) (s t : ByteArray) (hs : rep x = s) (ht : rep y = t) (w : World) (hv : VarT w) : Calls Tryd.prog 20 #[.string s, .string t] w (CmpR c w) := by
  subst hs; subst ht
  have h := compare_any (rep x) (rep y) (rep_size hx) (rep_size hy) w hv
  rw [cmpS_rep hx hy hc] at h
  exact h
end

theorem itoa_head_pos (y : Int) (hy : 0 ≤ y) : ∃ c r, Lib.itoa y = c :: r ∧ ¬ c = 45 := by
  obtain ⟨u, rfl⟩ := Int.eq_ofNat_of_zero_le hy
  rcases Nat.eq_zero_or_pos u with rfl | h
  · exact ⟨48, [], itoa_zero, by decide⟩
  · rw [itoa_pos]
    have h1 := (dec_good' u h).1
    cases hl : Lib.decDigits u with
    | nil => rw [hl] at h1; simp [szB] at h1
    | cons c r =>
      refine ⟨c, r, rfl, ?_⟩
      rintro rfl
      rw [hl] at h1
      simp [szB] at h1
/-- The first byte of a text. -/
theorem rep_pos_byte (y : Int) (hy : 0 ≤ y) (s : ByteArray) (hs : rep y = s) : ∃ h0 : 0 < s.size, ((s[0].toNat : Int) == 45) = false := by
  obtain ⟨c, r, e, hc⟩ := itoa_head_pos y hy
  have e2 : s = ⟨⟨c :: r⟩⟩ := by rw [← hs]; unfold rep; rw [e]
  subst e2
  exact ⟨Nat.succ_pos _, beq_of 45 c false (by rw [beq_eq_false_iff_ne]; exact hc) (by omega)⟩
theorem rep_neg_byte (y : Int) (hy : y < 0) (s t : ByteArray) (hs : rep y = s) (ht : rep (-y) = t) : (∃ h0 : 0 < s.size, ((s[0].toNat : Int) == 45) = true) ∧ s.extract 1 s.size = t := by
  obtain ⟨u, hu⟩ := Int.eq_ofNat_of_zero_le (show 0 ≤ -y by omega)
  have hy' : y = -(u : Int) := by omega
  subst hy'
  have e2 : s = ⟨⟨45 :: Lib.decDigits u⟩⟩ := by rw [← hs]; unfold rep; rw [itoa_neg u (by omega)]
  have e3 : t = ⟨⟨Lib.decDigits u⟩⟩ := by rw [← ht, Int.neg_neg]; unfold rep; rw [itoa_pos]
  subst e2
  subst e3
  exact ⟨⟨Nat.succ_pos _, beq_of 45 45 true rfl (by omega)⟩, extract_tail _ _⟩
theorem Dg.of_le {k : Nat} {x y : Int} (h : Dg k x) (hy : y.natAbs ≤ x.natAbs) : Dg k y := Nat.lt_of_le_of_lt hy h
theorem Dg.div {k : Nat} {x : Int} (h : Dg k x) (y : Int) : Dg k (x / y) := h.of_le (Int.natAbs_ediv_le_natAbs x y)
theorem Dg.mod {k : Nat} {y : Int} (h : Dg k y) (x : Int) (h0 : y ≠ 0) : Dg k (x % y) := h.of_le (by
  have h1 := Int.emod_nonneg x h0
  have h2 := Int.emod_lt x h0
  omega)
theorem Dg.abs {k : Nat} {y : Int} (h : Dg k y) : Dg k (y.natAbs : Int) := h.of_le (by omega)
end Go.Proofs.YtlipjedofegciaaDoor

/- Layer 1: integers as their texts; the operations on them. -/
import Derived.Test.YtlipjedofegciaaDoorIntF2
namespace Go.Proofs.YtlipjedofegciaaDoor
open Go Go.RowKit

/-- The canonical text of an integer. -/
def rep (z : Int) : ByteArray := ⟨(Lib.itoa z).toArray⟩
theorem rep_data (z : Int) : (rep z).data.toList = Lib.itoa z := rfl
theorem rep_num (s : ByteArray) (h : chk s.data.toList = 0) : s = rep (num s.data.toList) := by
  obtain ⟨⟨l⟩⟩ := s
  show _ = (⟨(Lib.itoa (num l)).toArray⟩ : ByteArray)
  rw [← itoa_zero_num l h]
theorem rep_inj {x y : Int} (h : rep x = rep y) : x = y := by
  have : (rep x).data.toList = (rep y).data.toList := by rw [h]
  rw [rep_data, rep_data] at this
  exact itoa_inj this
theorem itoa_ne (z : Int) : Lib.itoa z ≠ [] := by
  intro h
  have h1 := num_itoa z
  rw [h] at h1
  have h2 : z = 0 := by rw [← h1]; decide +kernel
  rw [h2] at h
  exact absurd h (by decide +kernel)
theorem rep_zero : rep 0 = ⟨#[48]⟩ := by decide +kernel
theorem rep_one : rep 1 = ⟨#[49]⟩ := by decide +kernel
/-- Of at most k digits. -/
def Dg (k : Nat) (z : Int) : Prop := z.natAbs < 10 ^ k
theorem Dg.mono {k m : Nat} {z : Int} (h : Dg k z) (hk : k ≤ m) : Dg m z := Nat.lt_of_lt_of_le h (Nat.pow_le_pow_right (by omega) hk)
theorem Dg.add {k : Nat} {x y : Int} (hx : Dg k x) (hy : Dg k y) : Dg (k + 1) (x + y) := by
  unfold Dg at *
  have := Int.natAbs_add_le x y
  rw [Nat.pow_succ]
  omega
theorem Dg.neg {k : Nat} {x : Int} (hx : Dg k x) : Dg k (-x) := by unfold Dg at *; rwa [Int.natAbs_neg]
theorem Dg.sub {k : Nat} {x y : Int} (hx : Dg k x) (hy : Dg k y) : Dg (k + 1) (x - y) := by rw [Int.sub_eq_add_neg]; exact hx.add hy.neg
theorem Dg.mul {k m : Nat} {x y : Int} (hx : Dg k x) (hy : Dg m y) : Dg (k + m) (x * y) := by
  unfold Dg at *
  rw [Int.natAbs_mul, Nat.pow_add]
  exact Nat.mul_lt_mul'' hx hy
theorem Dg.zero (k : Nat) : Dg k 0 := by unfold Dg; exact Nat.pow_pos (by omega)
theorem Dg.lim {k : Nat} {z : Int} (h : Dg k z) (hk : k ≤ 1000) : z.natAbs < lim := Nat.lt_of_lt_of_le h (le_lim k hk)
theorem dg_of {s : ByteArray} {n : Nat} (h : chk s.data.toList = 0) (hn : s.size ≤ n) : Dg n (num s.data.toList) := by
  obtain ⟨h1, h2⟩ := bod_len_of_chk h
  have hb := bod_length s.data.toList
  rw [← Lib.size_eq] at hb
  unfold Dg
  rw [num_natAbs]
  refine Nat.lt_of_lt_of_le (vl_lt 10 _ h2) (Nat.pow_le_pow_right (by omega) ?_)
  rw [dgs_length]; omega
theorem rep_size {z : Int} (h : z.natAbs < lim) : (rep z).size ≤ maxLen := by
  have := len_of_chk (chk_of_abs h)
  show (Lib.itoa z).length ≤ maxLen
  unfold maxLen; omega
theorem opS_rep {f : Int → Int → Int} {x y z : Int} (hx : x.natAbs < lim) (hy : y.natAbs < lim) (hz : f x y = z) (hl : z.natAbs < lim) : opS f (rep x).data.toList (rep y).data.toList = (Lib.itoa z, 0) := by
  subst hz
  rw [rep_data, rep_data, opS_ok (by unfold bothE; rw [if_pos (chk_of_abs hx)]; exact chk_of_abs hy), num_itoa, num_itoa]
  unfold limS
  rw [if_pos hl]
def StrR (z : ByteArray) (w : World) (e : Ending) (w' : World) : Prop := e = .returned (.string z) ∧ Below w.heap.size w w'

section
variable {x y z : Int} (hx : x.natAbs < lim) (hy : y.natAbs < lim)
include hx hy
theorem opadd_rep (hz : x + y = z) (hl : z.natAbs < lim) (s t r : ByteArray) (hs : rep x = s) (ht : rep y = t) (hr : rep z = r) (w : World) (hv : VarT w) : Calls Tryd.prog 34 #[.func (.func 14) #[] #[], .string s, .string t] w (StrR r w) := by
  subst hs; subst ht; subst hr
  have h := op_add (rep x) (rep y) (rep_size hx) (rep_size hy) w hv
  rw [opS_rep hx hy hz hl] at h
  exact h
theorem opsub_rep (hz : x - y = z) (hl : z.natAbs < lim) (s t r : ByteArray) (hs : rep x = s) (ht : rep y = t) (hr : rep z = r) (w : World) (hv : VarT w) : Calls Tryd.prog 34 #[.func (.func 15) #[] #[], .string s, .string t] w (StrR r w) := by
  subst hs; subst ht; subst hr
  have h := op_sub (rep x) (rep y) (rep_size hx) (rep_size hy) w hv
  rw [opS_rep hx hy hz hl] at h
  exact h
theorem opmul_rep (hz : x * y = z) (hl : z.natAbs < lim) (s t r : ByteArray) (hs : rep x = s) (ht : rep y = t) (hr : rep z = r) (w : World) (hv : VarT w) : Calls Tryd.prog 34 #[.func (.func 16) #[] #[], .string s, .string t] w (StrR r w) := by
  subst hs; subst ht; subst hr
  have h := op_mul (rep x) (rep y) (rep_size hx) (rep_size hy) w hv
  rw [opS_rep hx hy hz hl] at h
  exact h
end
end Go.Proofs.YtlipjedofegciaaDoor

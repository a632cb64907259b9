/- Joined: IntL2g, IntF, IntF2, IntF3, IntL4g, IntF4, IntL5g, IntL6g, IntL7g, IntN. -/
import Derived.Test.YtalnfbgaiegicaaGreatDoorIntA5
import Derived.Test.YtalnfbgaiegicaaGreatDoorIntA9
import Derived.Test.YtalnfbgaiegicaaGreatDoorIntA7
/- Layer 1: Great of two strings. -/
namespace Go.Proofs.YtalnfbgaiegicaaGreatDoor
open Go Go.RowKit

end Go.Proofs.YtalnfbgaiegicaaGreatDoor
/- The walks of layer 1: what the laws share: op, fits. -/
namespace Go.Proofs.YtalnfbgaiegicaaGreatDoor
open Go Go.RowKit

/-- What an operation's text is: nothing where there is an error. -/
theorem opS_text {f : Int → Int → Int} {l m : List UInt8} (h : ¬ (opS f l m).2 = 0) : (opS f l m).1 = [] := by
  unfold opS limS at h ⊢
  split
  · next e =>
    rw [if_pos e] at h
    split
    · next g => rw [if_pos g] at h; exact absurd rfl h
    · rfl
  · rfl

section
variable (s t : ByteArray) (hs : s.size ≤ maxLen) (ht : t.size ≤ maxLen) (w : World) (hv : VarT w)
include hs ht hv
end

/-- All strings are canonical integers of at most n bytes. -/
def fitB (n : Nat) (ss : List ByteArray) : Bool := ss.all fun s => decide (s.size ≤ n) && decide (chk s.data.toList = 0)
theorem fitB_next {n k : Nat} {ss : List ByteArray} (h : k < ss.length) (ha : fitB n (ss.take k) = true) (h1 : ss[k].size ≤ n) (h2 : chk ss[k].data.toList = 0) : fitB n (ss.take (k + 1)) = true := by
  rw [take_snoc ss k h]
  unfold fitB at ha ⊢
  rw [List.all_append, ha]
  simp [h1, h2]
theorem fitB_not {n k : Nat} {ss : List ByteArray} (h : k < ss.length) (h1 : ¬ (ss[k].size ≤ n ∧ chk ss[k].data.toList = 0)) : fitB n ss = false := by
  unfold fitB
  rw [List.all_eq_false]
  refine ⟨ss[k], List.getElem_mem h, ?_⟩
  simpa using h1

end Go.Proofs.YtalnfbgaiegicaaGreatDoor
/- The walks of layer 1: the chapter's examples. -/
namespace Go.Proofs.YtalnfbgaiegicaaGreatDoor
open Go Go.RowKit

theorem al_a : opS (· + ·) [57, 57, 57, 57, 57, 57, 57, 57, 57, 57, 57, 57, 57, 57, 57, 57, 57, 57, 57, 57] [49] = ([49, 48, 48, 48, 48, 48, 48, 48, 48, 48, 48, 48, 48, 48, 48, 48, 48, 48, 48, 48, 48], 0) := by decide +kernel
theorem al_b : opS (· * ·) [45, 49, 50] [49, 50] = ([45, 49, 52, 52], 0) := by decide +kernel
theorem al_c : dmS [45, 55] [50] = ([45, 52], [49], 0) := by decide +kernel
theorem al_d : dmS [45, 55] [45, 50] = ([52], [49], 0) := by decide +kernel
theorem al_e : gcS [49, 50] [45, 49, 56] = ([54], 0) := by decide +kernel
theorem ac_a (w : World) (hv : VarT w) : Calls Tryz.prog 123 #[.string ⟨#[57, 57, 57, 57, 57, 57, 57, 57, 57, 57, 57, 57, 57, 57, 57, 57, 57, 57, 57, 57]⟩, .string ⟨#[49]⟩] w fun e w' => e = .returned (.tuple #[.string ⟨[49, 48, 48, 48, 48, 48, 48, 48, 48, 48, 48, 48, 48, 48, 48, 48, 48, 48, 48, 48, 48].toArray⟩, .int .i64 0]) ∧ Below w.heap.size w w' := by
  have h := add_any ⟨#[57, 57, 57, 57, 57, 57, 57, 57, 57, 57, 57, 57, 57, 57, 57, 57, 57, 57, 57, 57]⟩ ⟨#[49]⟩ (by decide) (by decide) w hv
  rw [show opS (· + ·) (⟨#[57, 57, 57, 57, 57, 57, 57, 57, 57, 57, 57, 57, 57, 57, 57, 57, 57, 57, 57, 57]⟩ : ByteArray).data.toList (⟨#[49]⟩ : ByteArray).data.toList = ([49, 48, 48, 48, 48, 48, 48, 48, 48, 48, 48, 48, 48, 48, 48, 48, 48, 48, 48, 48, 48], 0) from al_a] at h
  exact h
theorem ac_b (w : World) (hv : VarT w) : Calls Tryz.prog 106 #[.string ⟨#[45, 49, 50]⟩, .string ⟨#[49, 50]⟩] w fun e w' => e = .returned (.tuple #[.string ⟨[45, 49, 52, 52].toArray⟩, .int .i64 0]) ∧ Below w.heap.size w w' := by
  have h := mul_any ⟨#[45, 49, 50]⟩ ⟨#[49, 50]⟩ (by decide) (by decide) w hv
  rw [show opS (· * ·) (⟨#[45, 49, 50]⟩ : ByteArray).data.toList (⟨#[49, 50]⟩ : ByteArray).data.toList = ([45, 49, 52, 52], 0) from al_b] at h
  exact h
theorem ac_c (w : World) (hv : VarT w) : Calls Tryz.prog 120 #[.string ⟨#[45, 55]⟩, .string ⟨#[50]⟩] w fun e w' => e = .returned (.tuple #[.string ⟨[45, 52].toArray⟩, .string ⟨[49].toArray⟩, .int .i64 0]) ∧ Below w.heap.size w w' := by
  have h := divmod_any ⟨#[45, 55]⟩ ⟨#[50]⟩ (by decide) (by decide) w hv
  rw [show dmS (⟨#[45, 55]⟩ : ByteArray).data.toList (⟨#[50]⟩ : ByteArray).data.toList = ([45, 52], [49], 0) from al_c] at h
  exact h
theorem ac_d (w : World) (hv : VarT w) : Calls Tryz.prog 120 #[.string ⟨#[45, 55]⟩, .string ⟨#[45, 50]⟩] w fun e w' => e = .returned (.tuple #[.string ⟨[52].toArray⟩, .string ⟨[49].toArray⟩, .int .i64 0]) ∧ Below w.heap.size w w' := by
  have h := divmod_any ⟨#[45, 55]⟩ ⟨#[45, 50]⟩ (by decide) (by decide) w hv
  rw [show dmS (⟨#[45, 55]⟩ : ByteArray).data.toList (⟨#[45, 50]⟩ : ByteArray).data.toList = ([52], [49], 0) from al_d] at h
  exact h
theorem ac_e (w : World) (hv : VarT w) : Calls Tryz.prog 159 #[.string ⟨#[49, 50]⟩, .string ⟨#[45, 49, 56]⟩] w fun e w' => e = .returned (.tuple #[.string ⟨[54].toArray⟩, .int .i64 0]) ∧ Below w.heap.size w w' := by
  have h := gcd_any ⟨#[49, 50]⟩ ⟨#[45, 49, 56]⟩ (by decide) (by decide) w hv
  rw [show gcS (⟨#[49, 50]⟩ : ByteArray).data.toList (⟨#[45, 49, 56]⟩ : ByteArray).data.toList = ([54], 0) from al_e] at h
  exact h

end Go.Proofs.YtalnfbgaiegicaaGreatDoor
/- Layer 1: integers as their texts; the operations on them. -/
namespace Go.Proofs.YtalnfbgaiegicaaGreatDoor
open Go Go.RowKit

/-- The canonical text of an integer. -/
def rep (z : Int) : ByteArray := ⟨(Lib.itoa z).toArray⟩
theorem rep_data (z : Int) : (rep z).data.toList = Lib.itoa z := rfl
theorem rep_num (s : ByteArray) (h : chk s.data.toList = 0) : s = rep (num s.data.toList) := by
  obtain ⟨⟨l⟩⟩ := s
  show _ = (⟨(Lib.itoa (num l)).toArray⟩ : ByteArray)
  rw [← itoa_zero_num l h]
theorem rep_inj {x y : Int} (h : rep x = rep y) : x = y := by
  have : (rep x).data.toList = (rep y).data.toList := by rw [h]
  rw [rep_data, rep_data] at this
  exact itoa_inj this
theorem itoa_ne (z : Int) : Lib.itoa z ≠ [] := by
  intro h
  have h1 := num_itoa z
  rw [h] at h1
  have h2 : z = 0 := by rw [← h1]; decide +kernel
  rw [h2] at h
  exact absurd h (by decide +kernel)
theorem rep_zero : rep 0 = ⟨#[48]⟩ := by decide +kernel
theorem rep_one : rep 1 = ⟨#[49]⟩ := by decide +kernel
/-- Of at most k digits. -/
def Dg (k : Nat) (z : Int) : Prop := z.natAbs < 10 ^ k
theorem Dg.mono {k m : Nat} {z : Int} (h : Dg k z) (hk : k ≤ m) : Dg m z := Nat.lt_of_lt_of_le h (Nat.pow_le_pow_right (by omega) hk)
theorem Dg.add {k : Nat} {x y : Int} (hx : Dg k x) (hy : Dg k y) : Dg (k + 1) (x + y) := by
  unfold Dg at *
  have := Int.natAbs_add_le x y
  rw [Nat.pow_succ]
  omega
theorem Dg.neg {k : Nat} {x : Int} (hx : Dg k x) : Dg k (-x) := by unfold Dg at *; rwa [Int.natAbs_neg]
theorem Dg.sub {k : Nat} {x y : Int} (hx : Dg k x) (hy : Dg k y) : Dg (k + 1) (x - y) := by rw [Int.sub_eq_add_neg]; exact hx.add hy.neg
theorem Dg.mul {k m : Nat} {x y : Int} (hx : Dg k x) (hy : Dg m y) : Dg (k + m) (x * y) := by
  unfold Dg at *
  rw [Int.natAbs_mul, Nat.pow_add]
  exact Nat.mul_lt_mul'' hx hy
theorem Dg.zero (k : Nat) : Dg k 0 := by unfold Dg; exact Nat.pow_pos (by omega)
theorem Dg.lim {k : Nat} {z : Int} (h : Dg k z) (hk : k ≤ 1000) : z.natAbs < lim := Nat.lt_of_lt_of_le h (le_lim k hk)
theorem dg_of {s : ByteArray} {n : Nat} (h : chk s.data.toList = 0) (hn : s.size ≤ n) : Dg n (num s.data.toList) := by
  obtain ⟨h1, h2⟩ := bod_len_of_chk h
  have hb := bod_length s.data.toList
  rw [← Lib.size_eq] at hb
  unfold Dg
  rw [num_natAbs]
  refine Nat.lt_of_lt_of_le (vl_lt 10 _ h2) (Nat.pow_le_pow_right (by omega) ?_)
  rw [dgs_length]; omega
theorem rep_size {z : Int} (h : z.natAbs < lim) : (rep z).size ≤ maxLen := by
  have := len_of_chk (chk_of_abs h)
  show (Lib.itoa z).length ≤ maxLen
  unfold maxLen; omega
theorem opS_rep {f : Int → Int → Int} {x y z : Int} (hx : x.natAbs < lim) (hy : y.natAbs < lim) (hz : f x y = z) (hl : z.natAbs < lim) : opS f (rep x).data.toList (rep y).data.toList = (Lib.itoa z, 0) := by
  subst hz
  rw [rep_data, rep_data, opS_ok (by unfold bothE; rw [if_pos (chk_of_abs hx)]; exact chk_of_abs hy), num_itoa, num_itoa]
  unfold limS
  rw [if_pos hl]
def StrR (z : ByteArray) (w : World) (e : Ending) (w' : World) : Prop := e = .returned (.string z) ∧ Below w.heap.size w w'

section
variable {x y z : Int} (hx : x.natAbs < lim) (hy : y.natAbs < lim)
include hx hy
end
end Go.Proofs.YtalnfbgaiegicaaGreatDoor
/- Layer 1: fits of two and three. -/
namespace Go.Proofs.YtalnfbgaiegicaaGreatDoor
open Go Go.RowKit

theorem fit_three {n : Nat} {s t u : ByteArray} (h : fitB n [s, t, u] = true) : (s.size ≤ n ∧ chk s.data.toList = 0) ∧ (t.size ≤ n ∧ chk t.data.toList = 0) ∧ (u.size ≤ n ∧ chk u.data.toList = 0) := by
  simpa [fitB, and_assoc] using h
theorem fit_two {n : Nat} {s t : ByteArray} (h : fitB n [s, t] = true) : (s.size ≤ n ∧ chk s.data.toList = 0) ∧ (t.size ≤ n ∧ chk t.data.toList = 0) := by
  simpa [fitB, and_assoc] using h
theorem rep_ne (z : Int) (s : ByteArray) (h : rep z = s) : (s.toList == []) = false := by
  rw [← h, Lib.toList_data, beq_eq_false_iff_ne]; exact itoa_ne z
theorem dg_one : Dg 1 1 := by unfold Dg; decide
end Go.Proofs.YtalnfbgaiegicaaGreatDoor
/- Layer 1: the operations on integers as their texts: DivMod, Gcd, Compare. -/
namespace Go.Proofs.YtalnfbgaiegicaaGreatDoor
open Go Go.RowKit

theorem bothE_rep {x y : Int} (hx : x.natAbs < lim) (hy : y.natAbs < lim) : bothE (rep x).data.toList (rep y).data.toList = 0 := by
  rw [rep_data, rep_data]; unfold bothE; rw [if_pos (chk_of_abs hx)]; exact chk_of_abs hy
theorem dmS_rep {x y q r : Int} (hx : x.natAbs < lim) (hy : y.natAbs < lim) (h0 : y ≠ 0) (hq : x / y = q) (hr : x % y = r) : dmS (rep x).data.toList (rep y).data.toList = (Lib.itoa q, Lib.itoa r, 0) := by
  subst hq; subst hr
  rw [dmS_ok (bothE_rep hx hy) (by rw [rep_data, num_itoa]; exact h0), rep_data, rep_data, num_itoa, num_itoa]
theorem dmS_rep0 {x y : Int} (hx : x.natAbs < lim) (hy : y.natAbs < lim) (h0 : y = 0) : dmS (rep x).data.toList (rep y).data.toList = ([], [], 16) :=
  dmS_zero (bothE_rep hx hy) (by rw [rep_data, num_itoa]; exact h0)
theorem gcS_rep {x y g : Int} (hx : x.natAbs < lim) (hy : y.natAbs < lim) (hg : ((Nat.gcd x.natAbs y.natAbs : Nat) : Int) = g) : gcS (rep x).data.toList (rep y).data.toList = (Lib.itoa g, 0) := by
  subst hg
  rw [gcS_ok (bothE_rep hx hy), rep_data, rep_data, num_itoa, num_itoa]
theorem cmpS_rep {x y c : Int} (hx : x.natAbs < lim) (hy : y.natAbs < lim) (hc : cmpZ x y = c) : cmpS (rep x).data.toList (rep y).data.toList = (c, 0) := by
  subst hc
  unfold cmpS
  rw [if_pos (bothE_rep hx hy), rep_data, rep_data, num_itoa, num_itoa]
def TwoR (q r : ByteArray) (e0 : Int) (w : World) (e : Ending) (w' : World) : Prop := e = .returned (.tuple #[.string q, .string r, .int .i64 e0]) ∧ Below w.heap.size w w'
def OneR (g : ByteArray) (w : World) (e : Ending) (w' : World) : Prop := e = .returned (.tuple #[.string g, .int .i64 0]) ∧ Below w.heap.size w w'
def CmpR (c : Int) (w : World) (e : Ending) (w' : World) : Prop := e = .returned (.tuple #[.int .i64 c, .int .i64 0]) ∧ Below w.heap.size w w'

section
variable {x y : Int} (hx : x.natAbs < lim) (hy : y.natAbs < lim)
include hx hy
theorem divmod_rep {q r : Int} (h0 : y ≠ 0) (hq : x / y = q) (hr : x % y = r) (s t u v : ByteArray) (hs : rep x = s) (ht : rep y = t) (hu : rep q = u) (hv' : rep r = v) (w : World) (hv : VarT w) : Calls Tryz.prog 120 #[.string s, .string t] w (TwoR u v 0 w) := by
  subst hs; subst ht; subst hu; subst hv'
  have h := divmod_any (rep x) (rep y) (rep_size hx) (rep_size hy) w hv
  rw [dmS_rep hx hy h0 hq hr] at h
  exact h
theorem divmod_rep0 (h0 : y = 0) (s t : ByteArray) (hs : rep x = s) (ht : rep y = t) (w : World) (hv : VarT w) : Calls Tryz.prog 120 #[.string s, .string t] w (TwoR ⟨#[]⟩ ⟨#[]⟩ 16 w) := by
  subst hs; subst ht
  have h := divmod_any (rep x) (rep y) (rep_size hx) (rep_size hy) w hv
  rw [dmS_rep0 hx hy h0] at h
  exact h
theorem gcd_rep {g : Int} (hg : ((Nat.gcd x.natAbs y.natAbs : Nat) : Int) = g) (s t u : ByteArray) (hs : rep x = s) (ht : rep y = t) (hu : rep g = u) (w : World) (hv : VarT w) : Calls Tryz.prog 159 #[.string s, .string t] w (OneR u w) := by
  subst hs; subst ht; subst hu
  have h := gcd_any (rep x) (rep y) (rep_size hx) (rep_size hy) w hv
  rw [gcS_rep hx hy hg] at h
  exact h
theorem compare_rep {c : Int} (hc : cmpZ x y = c) (s t : ByteArray) (hs : rep x = s) (ht : rep y = t) (w : World) (hv : VarT w) : Calls Tryz.prog 60 #[.string s, .string t] w (CmpR c w) := by
  subst hs; subst ht
  have h := compare_any (rep x) (rep y) (rep_size hx) (rep_size hy) w hv
  rw [cmpS_rep hx hy hc] at h
  exact h
end

theorem itoa_head_pos (y : Int) (hy : 0 ≤ y) : ∃ c r, Lib.itoa y = c :: r ∧ ¬ c = 45 := by
  obtain ⟨u, rfl⟩ := Int.eq_ofNat_of_zero_le hy
  rcases Nat.eq_zero_or_pos u with rfl | h
  · exact ⟨48, [], itoa_zero, by decide⟩
  · rw [itoa_pos]
    have h1 := (dec_good' u h).1
    cases hl : Lib.decDigits u with
    | nil => rw [hl] at h1; simp [szB] at h1
    | cons c r =>
      refine ⟨c, r, rfl, ?_⟩
      rintro rfl
      rw [hl] at h1
      simp [szB] at h1
/-- The first byte of a text. -/
theorem rep_pos_byte (y : Int) (hy : 0 ≤ y) (s : ByteArray) (hs : rep y = s) : ∃ h0 : 0 < s.size, ((s[0].toNat : Int) == 45) = false := by
  obtain ⟨c, r, e, hc⟩ := itoa_head_pos y hy
  have e2 : s = ⟨⟨c :: r⟩⟩ := by rw [← hs]; unfold rep; rw [e]
  subst e2
  exact ⟨Nat.succ_pos _, beq_of 45 c false (by rw [beq_eq_false_iff_ne]; exact hc) (by omega)⟩
theorem rep_neg_byte (y : Int) (hy : y < 0) (s t : ByteArray) (hs : rep y = s) (ht : rep (-y) = t) : (∃ h0 : 0 < s.size, ((s[0].toNat : Int) == 45) = true) ∧ s.extract 1 s.size = t := by
  obtain ⟨u, hu⟩ := Int.eq_ofNat_of_zero_le (show 0 ≤ -y by omega)
  have hy' : y = -(u : Int) := by omega
  subst hy'
  have e2 : s = ⟨⟨45 :: Lib.decDigits u⟩⟩ := by rw [← hs]; unfold rep; rw [itoa_neg u (by omega)]
  have e3 : t = ⟨⟨Lib.decDigits u⟩⟩ := by rw [← ht, Int.neg_neg]; unfold rep; rw [itoa_pos]
  subst e2
  subst e3
  exact ⟨⟨Nat.succ_pos _, beq_of 45 45 true rfl (by omega)⟩, extract_tail _ _⟩
theorem Dg.of_le {k : Nat} {x y : Int} (h : Dg k x) (hy : y.natAbs ≤ x.natAbs) : Dg k y := Nat.lt_of_le_of_lt hy h
theorem Dg.div {k : Nat} {x : Int} (h : Dg k x) (y : Int) : Dg k (x / y) := h.of_le (Int.natAbs_ediv_le_natAbs x y)
theorem Dg.mod {k : Nat} {y : Int} (h : Dg k y) (x : Int) (h0 : y ≠ 0) : Dg k (x % y) := h.of_le (by
  have h1 := Int.emod_nonneg x h0
  have h2 := Int.emod_lt x h0
  omega)
theorem Dg.abs {k : Nat} {y : Int} (h : Dg k y) : Dg k (y.natAbs : Int) := h.of_le (by omega)
end Go.Proofs.YtalnfbgaiegicaaGreatDoor
/- Layer 1: comparing. -/
namespace Go.Proofs.YtalnfbgaiegicaaGreatDoor
open Go Go.RowKit

theorem cmp_low {r : Int} (h : 0 ≤ r) : ∃ c, cmpZ 0 r = c ∧ c ≤ 0 := ⟨_, rfl, by unfold cmpZ; split <;> (try split) <;> omega⟩
theorem cmp_high {r b : Int} (h : r < b) : cmpZ r b = -1 := by unfold cmpZ; rw [if_pos h]
end Go.Proofs.YtalnfbgaiegicaaGreatDoor
/- Layer 1: comparing, more. -/
namespace Go.Proofs.YtalnfbgaiegicaaGreatDoor
open Go Go.RowKit

theorem cmpZ_lt {x y : Int} (h : x < y) : cmpZ x y = -1 := by unfold cmpZ; rw [if_pos h]
theorem cmpZ_gt {x y : Int} (h : y < x) : cmpZ x y = 1 := by unfold cmpZ; rw [if_neg (by omega), if_pos h]
theorem cmpZ_eq (x : Int) : cmpZ x x = 0 := by unfold cmpZ; rw [if_neg (by omega), if_neg (by omega)]
theorem cmpZ_tri (x y : Int) : (x < y ∧ cmpZ x y = -1) ∨ (x = y ∧ cmpZ x y = 0) ∨ (y < x ∧ cmpZ x y = 1) := by
  rcases Int.lt_trichotomy x y with h | h | h
  · exact .inl ⟨h, cmpZ_lt h⟩
  · subst h; exact .inr (.inl ⟨rfl, cmpZ_eq x⟩)
  · exact .inr (.inr ⟨h, cmpZ_gt h⟩)
theorem cmpZ_bd (x y : Int) : -1 ≤ cmpZ x y ∧ cmpZ x y ≤ 1 := by
  rcases cmpZ_tri x y with ⟨_, h⟩ | ⟨_, h⟩ | ⟨_, h⟩ <;> rw [h] <;> omega
theorem cmpZ_add (x y z : Int) : cmpZ (x + z) (y + z) = cmpZ x y := by unfold cmpZ; simp [Int.add_lt_add_iff_right]
theorem cmpZ_mul (x y z : Int) : cmpZ (x * z) (y * z) = cmpZ x y * cmpZ z 0 := by
  rcases Int.lt_trichotomy z 0 with h | h | h
  · rw [cmpZ_lt h]
    rcases cmpZ_tri x y with ⟨h1, e⟩ | ⟨h1, e⟩ | ⟨h1, e⟩
    · rw [e, cmpZ_gt (Int.mul_lt_mul_of_neg_right h1 h)]; rfl
    · rw [e, h1, cmpZ_eq]; rfl
    · rw [e, cmpZ_lt (Int.mul_lt_mul_of_neg_right h1 h)]; rfl
  · subst h; rw [Int.mul_zero, Int.mul_zero, cmpZ_eq, Int.mul_zero]
  · rw [cmpZ_gt h]
    rcases cmpZ_tri x y with ⟨h1, e⟩ | ⟨h1, e⟩ | ⟨h1, e⟩
    · rw [e, cmpZ_lt (Int.mul_lt_mul_of_pos_right h1 h)]; rfl
    · rw [e, h1, cmpZ_eq]; rfl
    · rw [e, cmpZ_gt (Int.mul_lt_mul_of_pos_right h1 h)]; rfl
end Go.Proofs.YtalnfbgaiegicaaGreatDoor
/- Layer 1: common divisors. -/
namespace Go.Proofs.YtalnfbgaiegicaaGreatDoor
open Go Go.RowKit

theorem dg_gcd {k : Nat} {x y : Int} (hx : Dg k x) (hy : Dg k y) : Dg k ((Nat.gcd x.natAbs y.natAbs : Nat) : Int) := by
  unfold Dg at *
  rw [Int.natAbs_natCast]
  rcases Nat.eq_zero_or_pos x.natAbs with h | h
  · rw [h, Nat.gcd_zero_left]; exact hy
  · exact Nat.lt_of_le_of_lt (Nat.gcd_le_left _ h) hx
theorem gcd_mod_left (x y : Int) : x % ((Nat.gcd x.natAbs y.natAbs : Nat) : Int) = 0 :=
  Int.emod_eq_zero_of_dvd (Int.ofNat_dvd_left.2 (Nat.gcd_dvd_left _ _))
theorem gcd_mod_right (x y : Int) : y % ((Nat.gcd x.natAbs y.natAbs : Nat) : Int) = 0 :=
  Int.emod_eq_zero_of_dvd (Int.ofNat_dvd_left.2 (Nat.gcd_dvd_right _ _))
theorem gcd_flip (x y : Int) : ((Nat.gcd y.natAbs (0 - x).natAbs : Nat) : Int) = ((Nat.gcd x.natAbs y.natAbs : Nat) : Int) := by
  rw [Int.zero_sub, Int.natAbs_neg, Nat.gcd_comm]
theorem gcd_scale (x y k : Int) : ((Nat.gcd (x * k).natAbs (y * k).natAbs : Nat) : Int) = ((Nat.gcd x.natAbs y.natAbs : Nat) : Int) * (k.natAbs : Int) := by
  rw [Int.natAbs_mul, Int.natAbs_mul, Nat.gcd_mul_right, Int.natCast_mul]
end Go.Proofs.YtalnfbgaiegicaaGreatDoor
/- Layer 1: integers of nines. -/
namespace Go.Proofs.YtalnfbgaiegicaaGreatDoor
open Go Go.RowKit

def nine (n : Nat) : List UInt8 := List.replicate n 57
theorem nine_dgs : ∀ n, vl 10 (dgs (nine n)) + 1 = 10 ^ n := by
  intro n
  have h : dgs (nine n) = List.replicate n 9 := by
    unfold dgs nine
    rw [List.reverse_replicate, List.map_replicate]; rfl
  rw [h]
  clear h
  induction n with
  | zero => rfl
  | succ n ih =>
    rw [List.replicate_succ, Nat.pow_succ]
    simp only [vl]
    omega
theorem nine_ng (n : Nat) : ngB (nine n) = false := by
  cases n with
  | zero => rfl
  | succ n => rfl
theorem nine_bod (n : Nat) : bod (nine n) = nine n := bod_pos _ (nine_ng n)
theorem nine_num (n : Nat) : num (nine n) = (10 ^ n : Nat) - 1 := by
  have h := nine_dgs n
  unfold num
  rw [nine_ng, nine_bod, ← h]
  simp
theorem nine_chk (n : Nat) (h : 0 < n) : chk (nine n) = if 1000 < n then 14 else 0 := by
  obtain ⟨m, rfl⟩ : ∃ m, n = m + 1 := ⟨n - 1, by omega⟩
  have h0 : ¬ nine (m + 1) = [48] := by unfold nine; rw [List.replicate_succ]; simp
  have h1 : szB (nine (m + 1)) = true := by unfold nine; rw [List.replicate_succ]; rfl
  have h2 : odB (nine (m + 1)) = true := by unfold odB nine; rw [List.all_replicate]; simp [dgB]
  have h3 : (nine (m + 1)).length = m + 1 := by unfold nine; simp
  unfold chk
  rw [if_neg h0, nine_bod, h1, h2, h3]
  rfl
theorem minus_nine (n : Nat) : ngB (45 :: nine n) = true ∧ bod (45 :: nine n) = nine n := ⟨rfl, bod_neg _⟩
theorem minus_num (n : Nat) : num (45 :: nine n) = -((10 ^ n : Nat) - 1 : Int) := by
  have h := nine_num n
  have h2 := nine_dgs n
  unfold num
  rw [(minus_nine n).1, (minus_nine n).2, ← h2]
  simp
theorem minus_chk (n : Nat) (h : 0 < n) : chk (45 :: nine n) = if 1000 < n then 14 else 0 := by
  obtain ⟨m, rfl⟩ : ∃ m, n = m + 1 := ⟨n - 1, by omega⟩
  have h0 : ¬ 45 :: nine (m + 1) = [48] := by simp
  have h1 : szB (nine (m + 1)) = true := by unfold nine; rw [List.replicate_succ]; rfl
  have h2 : odB (nine (m + 1)) = true := by unfold odB nine; rw [List.all_replicate]; simp [dgB]
  have h3 : (nine (m + 1)).length = m + 1 := by unfold nine; simp
  unfold chk
  rw [if_neg h0, (minus_nine _).2, h1, h2, h3]
  rfl
/-- The greatest integer of 1,000 digits. -/
theorem big_facts : ∃ big : List UInt8, big = nine thou ∧ chk big = 0 ∧ num big = (lim : Int) - 1 ∧ chk (45 :: big) = 0 ∧ num (45 :: big) = -((lim : Int) - 1) ∧ big.length = thou :=
  ⟨nine thou, rfl, by rw [nine_chk thou (by decide), if_neg (by decide)], by unfold lim; exact nine_num thou, by rw [minus_chk thou (by decide), if_neg (by decide)], by unfold lim; exact minus_num thou, by unfold nine; simp⟩
theorem big1_facts : chk (nine 1001) = 14 := by rw [nine_chk 1001 (by decide)]; rfl

end Go.Proofs.YtalnfbgaiegicaaGreatDoor

/- Joined: RatAi, RatAj. -/
import Derived.Test.YtalnfbgaiegicaaGreatDoorRatAf
/- The walks of layer 2: powers. -/
namespace Go.Proofs.YtalnfbgaiegicaaGreatDoor
open Go Go.RowKit

/-- A product of two texts, and its error. -/
def mS (s t : ByteArray) : ByteArray × Int := (⟨(opS (· * ·) s.data.toList t.data.toList).1.toArray⟩, (opS (· * ·) s.data.toList t.data.toList).2)
def orE (c k : Int) : Int := if c = 0 then k else c
/-- One bit of the exponent. -/
def stp (X Y : ByteArray) (bit : Bool) (st : ByteArray × ByteArray × Int) : ByteArray × ByteArray × Int :=
  let a := mS st.1 st.1
  let b := mS st.2.1 st.2.1
  let c := orE (orE st.2.2 a.2) b.2
  if bit = true then ((mS a.1 X).1, (mS b.1 Y).1, orE (orE c (mS a.1 X).2) (mS b.1 Y).2) else (a.1, b.1, c)
/-- The state behind the bits of e. -/
def pw (X Y : ByteArray) (e : Nat) : ByteArray × ByteArray × Int :=
  if h : e = 0 then (⟨#[49]⟩, ⟨#[49]⟩, 0) else stp X Y (e % 2 == 1) (pw X Y (e / 2))
termination_by e
decreasing_by omega
theorem pw_zero (X Y : ByteArray) : pw X Y 0 = (⟨#[49]⟩, ⟨#[49]⟩, 0) := by rw [pw]; rfl
theorem pw_pos (X Y : ByteArray) {e : Nat} (h : e ≠ 0) : pw X Y e = stp X Y (e % 2 == 1) (pw X Y (e / 2)) := by rw [pw, dif_neg h]
theorem mS_size (s t : ByteArray) : (mS s t).1.size ≤ 1001 := by
  unfold mS
  show (opS (· * ·) s.data.toList t.data.toList).1.length ≤ 1001
  unfold opS limS
  split
  · split
    · next h => exact len_of_chk (chk_of_abs h)
    · simp
  · simp
theorem pw_size (X Y : ByteArray) (e : Nat) : (pw X Y e).1.size ≤ 1001 ∧ (pw X Y e).2.1.size ≤ 1001 := by
  by_cases h : e = 0
  · rw [h, pw_zero]; exact ⟨by decide, by decide⟩
  · rw [pw_pos X Y h]
    unfold stp
    dsimp only
    split
    · exact ⟨mS_size _ _, mS_size _ _⟩
    · exact ⟨mS_size _ _, mS_size _ _⟩
theorem mul_mS (s t : ByteArray) (hs : s.size ≤ 1048576) (ht : t.size ≤ 1048576) (w : World) (hv : VarT w) :
    Calls Tryz.prog 106 #[.string s, .string t] w (StE (mS s t).1 (mS s t).2 w) :=
  mul_any s t (by unfold maxLen; omega) (by unfold maxLen; omega) w hv

theorem bits_facts : ∀ n : Fin 1001, Lib.bitLen n.val ≤ 10 ∧ n.val < 2 ^ Lib.bitLen n.val ∧ (n.val = 0 ∨ 2 ^ (Lib.bitLen n.val - 1) ≤ n.val) := by decide +kernel
theorem bits_zero {n : Nat} (hn : n ≤ 1000) : n / 2 ^ Lib.bitLen n = 0 := Nat.div_eq_of_lt (bits_facts ⟨n, by omega⟩).2.1
theorem bits_pos {n i : Nat} (hn : n ≤ 1000) (hi : i + 1 ≤ Lib.bitLen n) : n / 2 ^ i ≠ 0 := by
  obtain ⟨_, _, h | h⟩ := bits_facts ⟨n, by omega⟩
  · simp only at h; subst h; revert hi; rw [show Lib.bitLen 0 = 0 by decide +kernel]; omega
  · have h1 : 2 ^ i ≤ 2 ^ (Lib.bitLen n - 1) := Nat.pow_le_pow_right (by omega) (by omega)
    simp only at h
    have h2 : 1 ≤ n / 2 ^ i := (Nat.le_div_iff_mul_le (Nat.pow_pos (by omega))).2 (by omega)
    omega
theorem bits_half (n i : Nat) : n / 2 ^ i / 2 = n / 2 ^ (i + 1) := by rw [Nat.div_div_eq_div_mul, Nat.pow_succ]
/-- Three blocks that raised lays: its argument, the kept error, the closure's variable. -/
theorem rows3c (w : World) (a b : Value) (t te tp : TypeId) (hv : VarT w) {w5 : World}
    (h5 : (((w.alloc (.cells #[a, b] t (0, 0))).alloc (.cells #[.int .i64 0] te (0, 0))).alloc (.cells #[.pointer (some ⟨w.heap.size + 1, 0, none⟩)] tp (0, 0))) = w5) :
    Clo w (w.heap.size + 1 + 1) (w.heap.size + 1) 0 w5 ∧ w5.cell? ⟨w.heap.size, 0, none⟩ = some a ∧ w5.cell? ⟨w.heap.size, 1, none⟩ = some b := by
  have hh : w5.heap = (((w.heap.push (.cells #[a, b] t (0, 0))).push (.cells #[.int .i64 0] te (0, 0))).push (.cells #[.pointer (some ⟨w.heap.size + 1, 0, none⟩)] tp (0, 0))) := by subst h5; rfl
  have B : Below w.heap.size w w5 := by
    subst h5
    exact (((Below.refl _ w).alloc (Nat.le_refl _) _).alloc (by simp) _).alloc (by simp; omega) _
  clear h5
  have g0 : w5.heap[w.heap.size]? = some (.cells #[a, b] t (0, 0)) := by
    rw [hh]; simp only [Array.getElem?_push, Array.size_push]
    rw [if_neg (by omega), if_neg (by omega), if_pos trivial]
  have g3 : w5.heap[w.heap.size + 1]? = some (.cells #[.int .i64 0] te (0, 0)) := by
    rw [hh]; simp only [Array.getElem?_push, Array.size_push]
    rw [if_neg (by omega), if_pos trivial]
  have g4 : w5.heap[w.heap.size + 1 + 1]? = some (.cells #[.pointer (some ⟨w.heap.size + 1, 0, none⟩)] tp (0, 0)) := by
    rw [hh]; simp only [Array.getElem?_push, Array.size_push]
    rw [if_pos trivial]
  clear hh
  obtain ⟨k1, k2, _, _⟩ := row2 g0
  refine ⟨⟨B, hv.below B, ?_, ?_, ?_⟩, k1, k2⟩
  · simp only [World.cell?, g4]; rfl
  · simp only [World.cell?, g3]; rfl
  · simp only [World.frozen?, g3]; rfl
theorem bits_and1 : ∀ x : Fin 1001, bits BinOp.and IntKind.i64 (x.val : Int) 1 = ((x.val % 2 : Nat) : Int) := by decide +kernel
theorem bits_test {n i : Nat} (hn : n ≤ 1000) : (bits BinOp.and IntKind.i64 ((n : Int) / 2 ^ i) 1 == 1) = (n / 2 ^ i % 2 == 1) := by
  have e : (n : Int) / 2 ^ i = ((n / 2 ^ i : Nat) : Int) := by rw [Int.natCast_ediv, Int.natCast_pow]; rfl
  have h := bits_and1 ⟨n / 2 ^ i, by have := Nat.div_le_self n (2 ^ i); omega⟩
  simp only at h
  rw [e, h, Bool.eq_iff_iff, beq_iff_eq, beq_iff_eq]
  omega
theorem stp_t (X Y A B : ByteArray) (c : Int) : stp X Y true (A, B, c) = ((mS (mS A A).1 X).1, (mS (mS B B).1 Y).1, orE (orE (orE (orE c (mS A A).2) (mS B B).2) (mS (mS A A).1 X).2) (mS (mS B B).1 Y).2) := rfl
theorem stp_f (X Y A B : ByteArray) (c : Int) : stp X Y false (A, B, c) = ((mS A A).1, (mS B B).1, orE (orE c (mS A A).2) (mS B B).2) := rfl
theorem orE_def (c k : Int) : (if c = 0 then k else c) = orE c k := rfl
/-- What holds at each round's head. -/
structure RaI (w : World) (X Y : ByteArray) (st : ByteArray × ByteArray × Int) (A B : Value) (wr : World) : Prop where
  a : A = .string st.1
  b : B = .string st.2.1
  c : Clo w (w.heap.size + 1 + 1) (w.heap.size + 1) st.2.2 wr
  x : wr.cell? ⟨w.heap.size, 0, none⟩ = some (.string X)
  y : wr.cell? ⟨w.heap.size, 1, none⟩ = some (.string Y)

/-- What Power of a text answers, the exponent not negative. -/
theorem natAbs_pow_mono {x : Int} {h e : Nat} (he : h ≤ e) (hb : ¬ (x ^ h).natAbs < lim) (hl : x.natAbs < lim) : ¬ (x ^ e).natAbs < lim := by
  rw [Int.natAbs_pow] at *
  have h2 : 1 ≤ x.natAbs := by
    rcases Nat.eq_zero_or_pos x.natAbs with h0 | h0
    · rw [h0] at hb
      cases h with
      | zero => exact absurd (by rw [Nat.pow_zero]; exact Nat.lt_of_lt_of_le (by decide) (le_lim 1 (by omega))) hb
      | succ k => rw [Nat.zero_pow (by omega)] at hb; exact absurd (Nat.lt_of_le_of_lt (Nat.zero_le _) hl) hb
    · exact h0
  have := Nat.pow_le_pow_right h2 he
  omega
theorem mS_rep {x y : Int} (hx : x.natAbs < lim) (hy : y.natAbs < lim) : mS (rep x) (rep y) = if LB (x * y) = true then (rep (x * y), 0) else (⟨#[]⟩, 14) := by
  unfold mS
  rw [rep_data, rep_data, opS_ok (chk_rep hx hy), num_itoa, num_itoa]
  unfold limS
  cases hl : LB (x * y)
  · rw [if_neg (LB_false hl), if_neg (by decide)]
  · rw [if_pos (LB_true.1 hl), if_pos rfl]; rfl
/-- The state behind the bits of e, of two integers. -/
def Pst (x y : Int) (e : Nat) (st : ByteArray × ByteArray × Int) : Prop :=
  (LB (x ^ e) = true ∧ LB (y ^ e) = true ∧ st = (rep (x ^ e), rep (y ^ e), 0)) ∨ ((LB (x ^ e) = false ∨ LB (y ^ e) = false) ∧ st.2.2 = 14)
theorem orE_14 (k : Int) : orE 14 k = 14 := rfl
theorem orE_0 (k : Int) : orE 0 k = k := rfl
theorem stp_14 (X Y A B : ByteArray) (b : Bool) : (stp X Y b (A, B, 14)).2.2 = 14 := by
  cases b
  · rw [stp_f]; rfl
  · rw [stp_t]; rfl
theorem LB_mono {x : Int} {h e : Nat} (he : h ≤ e) (hl : x.natAbs < lim) (hb : LB (x ^ h) = false) : LB (x ^ e) = false :=
  decide_eq_false (natAbs_pow_mono he (LB_false hb) hl)
theorem pst_step {x y : Int} (hx : x.natAbs < lim) (hy : y.natAbs < lim) (h : Nat) (b : Bool) (st : ByteArray × ByteArray × Int) (hs : Pst x y h st) :
    Pst x y (2 * h + if b = true then 1 else 0) (stp (rep x) (rep y) b st) := by
  obtain ⟨A, B, c⟩ := st
  have e2 (z : Int) : z ^ (2 * h) = z ^ h * z ^ h := by rw [Nat.two_mul, Int.pow_add]
  have e3 (z : Int) : z ^ (2 * h + 1) = z ^ h * z ^ h * z := by rw [Int.pow_succ, e2]
  rcases hs with ⟨l1, l2, hst⟩ | ⟨hbad, h14⟩
  · obtain ⟨rfl, rfl, rfl⟩ : A = rep (x ^ h) ∧ B = rep (y ^ h) ∧ c = 0 := by
      simpa using hst
    have m1 := mS_rep (LB_true.1 l1) (LB_true.1 l1)
    have m2 := mS_rep (LB_true.1 l2) (LB_true.1 l2)
    rw [← e2] at m1 m2
    cases k1 : LB (x ^ (2 * h)) <;> cases k2 : LB (y ^ (2 * h))
    all_goals
      rw [k1] at m1
      rw [k2] at m2
      simp only [if_true, Bool.false_eq_true, if_false] at m1 m2
    case true.true =>
      cases b
      · left
        rw [stp_f, m1, m2]
        exact ⟨k1, k2, rfl⟩
      · have m3 := mS_rep (LB_true.1 k1) hx
        have m4 := mS_rep (LB_true.1 k2) hy
        rw [e2, ← e3, ← e2] at m3 m4
        rw [stp_t, m1, m2]
        dsimp only
        simp only [if_true]
        cases k3 : LB (x ^ (2 * h + 1)) <;> cases k4 : LB (y ^ (2 * h + 1))
        all_goals
          rw [k3] at m3
          rw [k4] at m4
          simp only [if_true, Bool.false_eq_true, if_false] at m3 m4
          rw [m3, m4]
        · exact .inr ⟨.inl k3, rfl⟩
        · exact .inr ⟨.inl k3, rfl⟩
        · exact .inr ⟨.inr k4, rfl⟩
        · exact .inl ⟨k3, k4, rfl⟩
    all_goals
      right
      refine ⟨?_, ?_⟩
      · first
        | exact .inl (LB_mono (by split <;> omega) hx k1)
        | exact .inr (LB_mono (by split <;> omega) hy k2)
      · cases b
        · rw [stp_f, m1, m2]; rfl
        · rw [stp_t, m1, m2]; rfl
  · right
    simp only at h14
    subst h14
    refine ⟨?_, stp_14 _ _ _ _ _⟩
    rcases hbad with k | k
    · exact .inl (LB_mono (by split <;> omega) hx k)
    · exact .inr (LB_mono (by split <;> omega) hy k)
theorem pw_spec {x y : Int} (hx : x.natAbs < lim) (hy : y.natAbs < lim) : ∀ e, Pst x y e (pw (rep x) (rep y) e) := by
  intro e
  induction e using Nat.strongRecOn with
  | ind e ih =>
    by_cases h : e = 0
    · subst h
      rw [pw_zero, ← rep_one]
      left
      rw [Int.pow_zero, Int.pow_zero]
      have := LB_of dg_one (show 1 ≤ 1000 by omega)
      exact ⟨this, this, rfl⟩
    · have hs := pst_step hx hy (e / 2) (e % 2 == 1) _ (ih (e / 2) (by omega))
      rw [← pw_pos _ _ h] at hs
      have e4 : 2 * (e / 2) + (if (e % 2 == 1) = true then 1 else 0) = e := by
        split
        · next g => have := beq_iff_eq.1 g; omega
        · next g => have : ¬ e % 2 = 1 := fun k => g (beq_iff_eq.2 k); omega
      rw [e4] at hs
      exact hs
/-- The error of a power. -/
def powC (q : Rat) (n : Nat) : Int := if LB (q.num ^ n) && LB ((q.den : Int) ^ n) then 0 else 14
theorem powC_sml {q : Rat} {n : Nat} (h : powC q n = 0) : Sml (q ^ n) := by
  unfold powC at h
  split at h
  · next g =>
    simp only [Bool.and_eq_true, LB_true] at g
    refine ⟨by rw [Rat.num_pow]; exact g.1, ?_⟩
    rw [Rat.den_pow, Int.natCast_pow]; exact g.2
  · cases h
end Go.Proofs.YtalnfbgaiegicaaGreatDoor
/- The walks of layer 2: Power. -/
namespace Go.Proofs.YtalnfbgaiegicaaGreatDoor
open Go Go.RowKit

/-- The error and the value of a power, by any exponent. -/
def pwC (q : Rat) (n : Int) : Int := if n < 0 then (if q.num = 0 then 16 else powC q⁻¹ (-n).toNat) else powC q n.toNat
def pwV (q : Rat) (n : Int) : Rat := if n < 0 then q⁻¹ ^ (-n).toNat else q ^ n.toNat
def poC (n : Int) (l : List UInt8) : Int := if n < -1000 ∨ 1000 < n then 2 else if ¬ chkR l = 0 then chkR l else pwC (qv l) n
def poT (n : Int) (l : List UInt8) : ByteArray := qT (poC n l) (pwV (qv l) n)
/-- Powers by integers. -/
theorem inv_pow (q : Rat) : ∀ n : Nat, q⁻¹ ^ n = (q ^ n)⁻¹ := by
  intro n
  induction n with
  | zero => rw [Rat.pow_zero, Rat.pow_zero]; decide +kernel
  | succ n ih => rw [Rat.pow_succ, Rat.pow_succ, ih, Rat.inv_mul_rev, Rat.mul_comm]
theorem pwV_zpow (q : Rat) (n : Int) : pwV q n = q ^ n := by
  unfold pwV
  by_cases hn : n < 0
  · rw [if_pos hn, inv_pow, ← Rat.zpow_natCast, ← Rat.zpow_neg]
    congr 1; omega
  · rw [if_neg hn, ← Rat.zpow_natCast]
    congr 1; omega
end Go.Proofs.YtalnfbgaiegicaaGreatDoor

/- Layer 3, plain: leap years, months, the day of a date, what each function answers. -/
import Derived.Lib.Hide
import Derived.WalkKit
namespace Go.Proofs.Ytalnfbgaiegicaa
open Go Go.RowKit

/-- Leap years, of any number. -/
def leapB (y : Int) : Bool := decide (y % 4 = 0) && (decide (y % 100 ≠ 0) || decide (y % 400 = 0))
theorem leapB_iff (y : Int) : leapB y = true ↔ (y % 4 = 0 ∧ (y % 100 ≠ 0 ∨ y % 400 = 0)) := by unfold leapB; simp
/-- The days of a month. -/
def mlen (y m : Int) : Int := if m = 2 then (if leapB y then 29 else 28) else if m = 4 ∨ m = 6 ∨ m = 9 ∨ m = 11 then 30 else 31
theorem mlen_bd (y m : Int) : 28 ≤ mlen y m ∧ mlen y m ≤ 31 := by
  unfold mlen; split
  · split <;> omega
  · split <;> omega
/-- The days of a year before a month (from 0 on). -/
def mo (y : Int) : Nat → Int
  | 0 => 0
  | k + 1 => mo y k + mlen y ((k : Int) + 1)
/-- The day of a year's first of January, and one. -/
def foy (y : Int) : Int := 365 * (y - 1900) + ((y - 1) / 4 - (y - 1) / 100 + (y - 1) / 400) - 460
theorem mo_le (y : Int) (k : Nat) : mo y k ≤ 31 * k ∧ 28 * (k : Int) ≤ mo y k := by
  induction k with
  | zero => simp [mo]
  | succ k ih => have := mlen_bd y ((k : Int) + 1); simp only [mo]; omega
theorem mo_mono (y : Int) (a b : Nat) (h : a ≤ b) : mo y a ≤ mo y b := by
  induction b with
  | zero =>
    obtain rfl : a = 0 := by omega
    exact Int.le_refl _
  | succ b ih =>
    rcases Nat.lt_or_ge a (b + 1) with g | g
    · have := mlen_bd y ((b : Int) + 1); have := ih (by omega); simp only [mo]; omega
    · obtain rfl : a = b + 1 := by omega
      exact Int.le_refl _
theorem mo12 (y : Int) : mo y 12 = 365 + (if leapB y then 1 else 0) := by
  unfold mo mo mo mo mo mo mo mo mo mo mo mo mo mlen
  cases leapB y <;> simp
theorem leap_count (y : Int) : (y / 4 - y / 100 + y / 400) - ((y - 1) / 4 - (y - 1) / 100 + (y - 1) / 400) = if leapB y then 1 else 0 := by
  by_cases h : leapB y = true
  · rw [if_pos h]; rw [leapB_iff] at h; omega
  · rw [if_neg h]; rw [leapB_iff] at h; omega
theorem foy_succ (y : Int) : foy (y + 1) = foy y + mo y 12 := by
  have := leap_count y
  rw [mo12]; unfold foy
  have e : y + 1 - 1 = y := by omega
  rw [e]; omega
theorem foy_mono (a b : Int) (h : a ≤ b) : foy a ≤ foy b := by unfold foy; omega
theorem foy_lt {a b : Int} (h : a < b) : foy a + mo a 12 ≤ foy b := by
  rw [← foy_succ]; exact foy_mono _ _ (by omega)
theorem foy_1900 : foy 1900 = 0 := by decide
theorem foy_guess (n : Int) (h0 : 0 ≤ n) (h1 : n ≤ 99999) : foy (1900 + n / 366) ≤ n := by unfold foy; omega
theorem foy_bd (y : Int) (h0 : 1900 ≤ y) (h1 : y ≤ 2400) : 0 ≤ foy y ∧ foy y ≤ 200000 := by unfold foy; omega
theorem mlen_leap (y : Int) : mlen y 2 = if leapB y then 29 else 28 := by simp [mlen]

/-- y, m, d is the date of day n. -/
structure IsDate (y m d n : Int) : Prop where
  y0 : 1900 ≤ y
  m0 : 1 ≤ m
  m1 : m ≤ 12
  d0 : 1 ≤ d
  d1 : d ≤ mlen y m
  eq : n + 1 = foy y + mo y (m - 1).toNat + d
theorem IsDate.le12 {y m d n : Int} (h : IsDate y m d n) : mo y (m - 1).toNat + d ≤ mo y m.toNat ∧ mo y m.toNat ≤ mo y 12 := by
  have h0 := h.m0
  have h1 := h.m1
  obtain ⟨k, rfl⟩ : ∃ k : Nat, m = (k : Int) + 1 := ⟨(m - 1).toNat, by omega⟩
  have e1 : ((k : Int) + 1 - 1).toNat = k := by omega
  have e2 : ((k : Int) + 1).toNat = k + 1 := by omega
  rw [e1, e2]
  exact ⟨by have := h.d1; simp only [mo]; omega, mo_mono _ _ _ (by omega)⟩
theorem IsDate.n0 {y m d n : Int} (h : IsDate y m d n) : 0 ≤ n := by
  have := foy_mono 1900 y h.y0
  have := (mo_le y (m - 1).toNat).2
  have := h.eq; have := h.d0
  rw [foy_1900] at *
  omega
theorem IsDate.lt_y {y m d n y' m' d' n' : Int} (h : IsDate y m d n) (h' : IsDate y' m' d' n') (hl : y < y') : n < n' := by
  have := foy_lt hl
  have := h.le12; have := h.eq; have := h'.eq; have := h'.d0
  have := (mo_le y' (m' - 1).toNat).2
  omega
theorem IsDate.lt_m {y m d n m' d' n' : Int} (h : IsDate y m d n) (h' : IsDate y m' d' n') (hl : m < m') : n < n' := by
  have := h.le12; have := h.eq; have := h'.eq; have := h'.d0
  have := mo_mono y m.toNat (m' - 1).toNat (by omega)
  omega
theorem IsDate.lt_d {y m d n d' n' : Int} (h : IsDate y m d n) (h' : IsDate y m d' n') (hl : d < d') : n < n' := by
  have := h.eq; have := h'.eq; omega
/-- The order of dates is that of their days. -/
theorem IsDate.lex {y m d n y' m' d' n' : Int} (h : IsDate y m d n) (h' : IsDate y' m' d' n') : n < n' ↔ (y < y' ∨ (y = y' ∧ (m < m' ∨ (m = m' ∧ d < d')))) := by
  rcases Int.lt_trichotomy y y' with a | rfl | a
  · exact ⟨fun _ => .inl a, fun _ => h.lt_y h' a⟩
  · rcases Int.lt_trichotomy m m' with b | rfl | b
    · exact ⟨fun _ => .inr ⟨rfl, .inl b⟩, fun _ => h.lt_m h' b⟩
    · have := h.eq; have := h'.eq; omega
    · have := h'.lt_m h b; omega
  · have := h'.lt_y h a; omega
theorem IsDate.uniq {y m d y' m' d' n : Int} (h : IsDate y m d n) (h' : IsDate y' m' d' n) : y = y' ∧ m = m' ∧ d = d' := by
  have a := h.lex h'; have b := h'.lex h
  omega
theorem IsDate.same {y m d n n' : Int} (h : IsDate y m d n) (h' : IsDate y m d n') : n = n' := by have := h.eq; have := h'.eq; omega
theorem IsDate.next_d {y m d n : Int} (h : IsDate y m d n) (hl : d < mlen y m) : IsDate y m (d + 1) (n + 1) := by
  obtain ⟨a, b, c, e, f, g⟩ := h; exact ⟨a, b, c, by omega, by omega, by omega⟩
theorem IsDate.next_m {y m d n : Int} (h : IsDate y m d n) (hl : d = mlen y m) (hm : m < 12) : IsDate y (m + 1) 1 (n + 1) := by
  obtain ⟨a, b, c, e, f, g⟩ := h
  obtain ⟨k, rfl⟩ : ∃ k : Nat, m = (k : Int) + 1 := ⟨(m - 1).toNat, by omega⟩
  have e1 : ((k : Int) + 1 - 1).toNat = k := by omega
  have e2 : ((k : Int) + 1 + 1 - 1).toNat = k + 1 := by omega
  rw [e1] at g
  exact ⟨a, by omega, by omega, by omega, by have := mlen_bd y ((k : Int) + 1 + 1); omega, by rw [e2]; simp only [mo]; omega⟩
theorem IsDate.next_y {y m d n : Int} (h : IsDate y m d n) (hl : d = mlen y m) (hm : ¬ m < 12) : IsDate (y + 1) 1 1 (n + 1) := by
  obtain ⟨a, b, c, e, f, g⟩ := h
  obtain rfl : m = 12 := by omega
  have e1 : ((12 : Int) - 1).toNat = 11 := by decide
  rw [e1] at g
  have := foy_succ y
  have e2 : mo y 12 = mo y 11 + mlen y 12 := rfl
  have e3 : mo (y + 1) ((1 : Int) - 1).toNat = 0 := rfl
  exact ⟨by omega, by omega, by omega, by omega, by have := mlen_bd (y + 1) 1; omega, by rw [e3]; omega⟩
theorem isDate_of_nat (n : Nat) : ∃ y m d, IsDate y m d n := by
  induction n with
  | zero => exact ⟨1900, 1, 1, by decide, by decide, by decide, by decide, by decide, by decide⟩
  | succ n ih =>
    obtain ⟨y, m, d, h⟩ := ih
    have := h.d1
    have e : ((n + 1 : Nat) : Int) = (n : Int) + 1 := by omega
    rw [e]
    by_cases hl : d < mlen y m
    · exact ⟨_, _, _, h.next_d hl⟩
    · by_cases hm : m < 12
      · exact ⟨_, _, _, h.next_m (by omega) hm⟩
      · exact ⟨_, _, _, h.next_y (by omega) hm⟩
theorem isDate_of (n : Int) (h : 0 ≤ n) : ∃ y m d, IsDate y m d n := by
  obtain ⟨k, rfl⟩ : ∃ k : Nat, n = k := ⟨n.toNat, by omega⟩
  exact isDate_of_nat k
theorem foy_2174 : foy 2174 = 100077 := by decide
theorem IsDate.y1 {y m d n : Int} (h : IsDate y m d n) (hn : n ≤ 99999) : y ≤ 2173 := by
  rcases Int.lt_or_le 2173 y with g | g
  · have := foy_mono 2174 y g
    have := h.eq; have := h.d0; have := (mo_le y (m - 1).toNat).2
    rw [foy_2174] at *
    omega
  · exact g
theorem IsDate.d31 {y m d n : Int} (h : IsDate y m d n) : d ≤ 31 := Int.le_trans h.d1 (mlen_bd y m).2

/-- The day that Of computes. -/
def dayI (y m d : Int) : Int := foy y + mo y (m - 1).toNat + d - 1
theorem IsDate.day_eq {y m d n : Int} (h : IsDate y m d n) : dayI y m d = n := by unfold dayI; have := h.eq; omega
/-- Is it a date? -/
def ymB (y m : Int) : Bool := decide (1900 ≤ y) && decide (y ≤ 2173) && decide (1 ≤ m) && decide (m ≤ 12)
def okB (y m d : Int) : Bool := ymB y m && decide (1 ≤ d) && decide (d ≤ mlen y m) && decide (dayI y m d ≤ 99999)
theorem ymB_iff (y m : Int) : ymB y m = true ↔ (1900 ≤ y ∧ y ≤ 2173 ∧ 1 ≤ m ∧ m ≤ 12) := by unfold ymB; simp [and_assoc]
theorem okB_iff (y m d : Int) : okB y m d = true ↔ ((1900 ≤ y ∧ y ≤ 2173 ∧ 1 ≤ m ∧ m ≤ 12) ∧ 1 ≤ d ∧ d ≤ mlen y m ∧ dayI y m d ≤ 99999) := by
  unfold okB; rw [Bool.and_eq_true, Bool.and_eq_true, Bool.and_eq_true, ymB_iff]; simp [and_assoc]
theorem okB_date {y m d : Int} (h : okB y m d = true) : IsDate y m d (dayI y m d) ∧ dayI y m d ≤ 99999 := by
  rw [okB_iff] at h
  exact ⟨⟨h.1.1, h.1.2.2.1, h.1.2.2.2, h.2.1, h.2.2.1, by unfold dayI; omega⟩, h.2.2.2⟩
theorem IsDate.ok {y m d n : Int} (h : IsDate y m d n) (hn : n ≤ 99999) : okB y m d = true := by
  rw [okB_iff]; exact ⟨⟨h.y0, h.y1 hn, h.m0, h.m1⟩, h.d0, h.d1, by rw [h.day_eq]; exact hn⟩
/-- What Of answers. -/
def ofV (y m d : Int) : Int := if okB y m d then dayI y m d else 0
def ofE (y m d : Int) : Int := if okB y m d then 0 else 2
theorem IsDate.of_v {y m d n : Int} (h : IsDate y m d n) (hn : n ≤ 99999) : ofV y m d = n := by unfold ofV; rw [if_pos (h.ok hn), h.day_eq]
theorem IsDate.of_e {y m d n : Int} (h : IsDate y m d n) (hn : n ≤ 99999) : ofE y m d = 0 := by unfold ofE; rw [if_pos (h.ok hn)]
theorem dayI_bd {y m d : Int} (h : ymB y m = true) (h0 : 1 ≤ d) (h1 : d ≤ mlen y m) : 0 ≤ dayI y m d ∧ dayI y m d ≤ 100500 := by
  rw [ymB_iff] at h
  have := mlen_bd y m
  have := mo_le y (m - 1).toNat
  have := foy_mono 1900 y h.1
  have := foy_mono y 2173 h.2.1
  rw [foy_1900] at *
  have : foy 2173 = 99712 := by decide
  unfold dayI
  omega
end Go.Proofs.Ytalnfbgaiegicaa

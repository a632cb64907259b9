/- Layer 3, plain: texts of dates as lists of bytes. -/
import Derived.Test.YtgnmcjfocnnffaaDoorDatM
import Derived.Lib.ItoaNum
import Derived.Lib.Strings
namespace Go.Proofs.YtgnmcjfocnnffaaDoor
open Go Go.RowKit

/-- A decimal digit. -/
def dgB (c : UInt8) : Bool := 48 ≤ c && c ≤ 57
theorem dgB_iff (c : UInt8) : dgB c = true ↔ 48 ≤ (c.toNat : Int) ∧ (c.toNat : Int) ≤ 57 := by
  unfold dgB; simp [UInt8.le_iff_toNat_le]; omega
/-- The byte that may stand at a place. -/
def atB (k : Nat) (c : UInt8) : Bool := if k = 4 ∨ k = 7 then decide (c = 45) else dgB c
/-- The form of the first bytes. -/
def fmK (l : List UInt8) : Nat → Bool
  | 0 => true
  | k + 1 => fmK l k && atB k (l.getD k 0)
/-- The form of a date. -/
def fmB (l : List UInt8) : Bool := decide (l.length = 10) && fmK l 10
theorem fmK_le (l : List UInt8) (k : Nat) : ∀ n, k ≤ n → fmK l n = true → fmK l k = true := by
  intro n hk
  induction n with
  | zero => intro h; obtain rfl : k = 0 := by omega
            exact h
  | succ n ih =>
    intro h
    rcases Nat.lt_or_ge k (n + 1) with g | g
    · exact ih (by omega) (by simp only [fmK, Bool.and_eq_true] at h; exact h.1)
    · obtain rfl : k = n + 1 := by omega
      exact h
theorem fmK_at (l : List UInt8) (h : fmK l 10 = true) (k : Nat) (hk : k < 10) : atB k (l.getD k 0) = true := by
  have := fmK_le l (k + 1) 10 hk h
  simp only [fmK, Bool.and_eq_true] at this
  exact this.2
theorem fmK_bad (l : List UInt8) (k : Nat) (hk : k < 10) (h : atB k (l.getD k 0) = false) : fmK l 10 = false := by
  rw [Bool.eq_false_iff]; intro g
  rw [fmK_at l g k hk] at h; cases h
/-- The number that is written in digits. -/
def numI (l : List UInt8) : Int := l.foldl (fun n c => 10 * n + ((c.toNat : Int) - 48)) 0
theorem numI_snoc (l : List UInt8) (c : UInt8) : numI (l ++ [c]) = 10 * numI l + ((c.toNat : Int) - 48) := by unfold numI; rw [List.foldl_append]; rfl
theorem numI_acc (l : List UInt8) (h : ∀ c ∈ l, dgB c = true) (a : Int) (ha : 0 ≤ a) :
    0 ≤ l.foldl (fun n c => 10 * n + ((c.toNat : Int) - 48)) a ∧ l.foldl (fun n c => 10 * n + ((c.toNat : Int) - 48)) a + 1 ≤ (a + 1) * (10 : Int) ^ l.length := by
  induction l generalizing a with
  | nil => simp [ha]
  | cons c l ih =>
    have hc := (dgB_iff c).1 (h c (by simp))
    have h1 := ih (fun c hc => h c (by simp [hc])) (10 * a + ((c.toNat : Int) - 48)) (by omega)
    rw [List.foldl_cons, List.length_cons, Int.pow_succ]
    refine ⟨h1.1, Int.le_trans h1.2 ?_⟩
    have h2 : 10 * a + ((c.toNat : Int) - 48) + 1 ≤ (a + 1) * 10 := by omega
    have h3 : (0 : Int) ≤ 10 ^ l.length := Int.pow_nonneg (by omega)
    have := Int.mul_le_mul_of_nonneg_right h2 h3
    rw [Int.mul_comm ((10 : Int) ^ l.length) 10, ← Int.mul_assoc]
    exact this
theorem numI_bd (l : List UInt8) (h : ∀ c ∈ l, dgB c = true) : 0 ≤ numI l ∧ numI l + 1 ≤ (10 : Int) ^ l.length := by
  have := numI_acc l h 0 (by omega)
  unfold numI; simpa using this
/-- What Parse answers. -/
def pY (l : List UInt8) : Int := numI (l.take 4)
def pM (l : List UInt8) : Int := numI ((l.drop 5).take 2)
def pD (l : List UInt8) : Int := numI (l.drop 8)
def paV (l : List UInt8) : Int := if fmB l then ofV (pY l) (pM l) (pD l) else 0
def paE (l : List UInt8) : Int := if fmB l then ofE (pY l) (pM l) (pD l) else 12

/-- A digit's byte. -/
def dgU (n : Int) : UInt8 := UInt8.ofNat (48 + (n % 10).toNat)
def two (n : Int) : List UInt8 := [dgU (n / 10), dgU n]
def four (n : Int) : List UInt8 := [dgU (n / 1000), dgU (n / 100), dgU (n / 10), dgU n]
/-- The text of a date. -/
def txt (y m d : Int) : List UInt8 := four y ++ [45] ++ two m ++ [45] ++ two d
theorem dgU_nat (n : Int) : ((dgU n).toNat : Int) = 48 + n % 10 := by
  unfold dgU; rw [UInt8.toNat_ofNat']; omega
theorem dgU_dg (n : Int) : dgB (dgU n) = true := by rw [dgB_iff, dgU_nat]; omega
theorem txt_length (y m d : Int) : (txt y m d).length = 10 := rfl
theorem txt_fm (y m d : Int) : fmB (txt y m d) = true := by
  unfold fmB
  rw [txt_length, decide_eq_true rfl, Bool.true_and]
  simp only [fmK, txt, four, two, atB, dgU_dg, List.cons_append, List.nil_append, List.getD_cons_zero, List.getD_cons_succ]
  simp
theorem num_two (n : Int) (h0 : 0 ≤ n) (h1 : n ≤ 99) : numI (two n) = n := by
  show 10 * (10 * 0 + (((dgU (n / 10)).toNat : Int) - 48)) + (((dgU n).toNat : Int) - 48) = n
  rw [dgU_nat, dgU_nat]; omega
theorem num_four (n : Int) (h0 : 0 ≤ n) (h1 : n ≤ 9999) : numI (four n) = n := by
  show 10 * (10 * (10 * (10 * 0 + (((dgU (n / 1000)).toNat : Int) - 48)) + (((dgU (n / 100)).toNat : Int) - 48)) + (((dgU (n / 10)).toNat : Int) - 48)) + (((dgU n).toNat : Int) - 48) = n
  rw [dgU_nat, dgU_nat, dgU_nat, dgU_nat]; omega
theorem txt_pY (y m d : Int) (h0 : 0 ≤ y) (h1 : y ≤ 9999) : pY (txt y m d) = y := num_four y h0 h1
theorem txt_pM (y m d : Int) (h0 : 0 ≤ m) (h1 : m ≤ 99) : pM (txt y m d) = m := num_two m h0 h1
theorem txt_pD (y m d : Int) (h0 : 0 ≤ d) (h1 : d ≤ 99) : pD (txt y m d) = d := num_two d h0 h1
theorem txt_date {y m d n : Int} (h : IsDate y m d n) (hn : n ≤ 99999) : paV (txt y m d) = n ∧ paE (txt y m d) = 0 := by
  have := h.y0; have := h.y1 hn; have := h.m0; have := h.m1; have := h.d0; have := h.d31
  unfold paV paE
  rw [if_pos (txt_fm _ _ _), if_pos (txt_fm _ _ _), txt_pY _ _ _ (by omega) (by omega), txt_pM _ _ _ (by omega) (by omega), txt_pD _ _ _ (by omega) (by omega)]
  exact ⟨h.of_v hn, h.of_e hn⟩
theorem dgU_of (c : UInt8) (h : dgB c = true) (n : Int) (hn : n % 10 = (c.toNat : Int) - 48) : dgU n = c := by
  have := (dgB_iff c).1 h
  apply UInt8.toNat_inj.1
  have := dgU_nat n
  omega
/-- What has the form is the text of its numbers. -/
theorem txt_back (l : List UInt8) (h : fmB l = true) : txt (pY l) (pM l) (pD l) = l := by
  unfold fmB at h
  rw [Bool.and_eq_true, decide_eq_true_iff] at h
  obtain ⟨hl, hf⟩ := h
  match l, hl with
  | [a, b, c, d, e, f, g, h, i, j], _ =>
    have k0 : dgB a = true := fmK_at _ hf 0 (by decide)
    have k1 : dgB b = true := fmK_at _ hf 1 (by decide)
    have k2 : dgB c = true := fmK_at _ hf 2 (by decide)
    have k3 : dgB d = true := fmK_at _ hf 3 (by decide)
    have k4 : decide (e = 45) = true := fmK_at _ hf 4 (by decide)
    have k5 : dgB f = true := fmK_at _ hf 5 (by decide)
    have k6 : dgB g = true := fmK_at _ hf 6 (by decide)
    have k7 : decide (h = 45) = true := fmK_at _ hf 7 (by decide)
    have k8 : dgB i = true := fmK_at _ hf 8 (by decide)
    have k9 : dgB j = true := fmK_at _ hf 9 (by decide)
    obtain rfl := of_decide_eq_true k4
    obtain rfl := of_decide_eq_true k7
    have a0 := (dgB_iff a).1 k0; have b0 := (dgB_iff b).1 k1; have c0 := (dgB_iff c).1 k2; have d0 := (dgB_iff d).1 k3
    have f0 := (dgB_iff f).1 k5; have g0 := (dgB_iff g).1 k6; have i0 := (dgB_iff i).1 k8; have j0 := (dgB_iff j).1 k9
    have ey : pY [a, b, c, d, 45, f, g, 45, i, j] = 10 * (10 * (10 * (10 * 0 + ((a.toNat : Int) - 48)) + ((b.toNat : Int) - 48)) + ((c.toNat : Int) - 48)) + ((d.toNat : Int) - 48) := rfl
    have em : pM [a, b, c, d, 45, f, g, 45, i, j] = 10 * (10 * 0 + ((f.toNat : Int) - 48)) + ((g.toNat : Int) - 48) := rfl
    have ed : pD [a, b, c, d, 45, f, g, 45, i, j] = 10 * (10 * 0 + ((i.toNat : Int) - 48)) + ((j.toNat : Int) - 48) := rfl
    rw [ey, em, ed]
    unfold txt four two
    rw [dgU_of a k0 _ (by omega), dgU_of b k1 _ (by omega), dgU_of c k2 _ (by omega), dgU_of d k3 _ (by omega), dgU_of f k5 _ (by omega), dgU_of g k6 _ (by omega), dgU_of i k8 _ (by omega), dgU_of j k9 _ (by omega)]
    rfl
/-- The decimal writing of small numbers. -/
theorem itoa_two (n : Nat) (h : n < 100) : (if n < 10 then 48 :: Lib.itoa n else Lib.itoa n) = two n := by
  have : ∀ n : Nat, n < 100 → (if n < 10 then 48 :: Lib.itoa n else Lib.itoa n) = two n := by decide +kernel
  exact this n h
theorem itoa_four (n : Nat) (h0 : 1900 ≤ n) (h : n < 2174) : Lib.itoa n = four n := by
  have : ∀ k : Nat, k < 274 → Lib.itoa ((1900 + k : Nat) : Int) = four ((1900 + k : Nat) : Int) := by decide +kernel
  have h2 := this (n - 1900) (by omega)
  rwa [show 1900 + (n - 1900) = n by omega] at h2
end Go.Proofs.YtgnmcjfocnnffaaDoor

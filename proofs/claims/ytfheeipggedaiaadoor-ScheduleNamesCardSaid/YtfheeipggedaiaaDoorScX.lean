/- Layer 6, plain: what Periods and Find answer. -/
import Derived.Test.YtfheeipggedaiaaDoorScG
import Derived.Test.YtfheeipggedaiaaDoorScP
import Derived.Test.YtfheeipggedaiaaDoorCalG
namespace Go.Proofs.YtfheeipggedaiaaDoor
open Go Go.RowKit

theorem fiI_first {d : Nat → Int} {n : Nat} {day : Int} (k : Nat) : ∀ {i r : Nat}, fiI d n day k i = some r → ∀ j, i ≤ j → j < r → ¬ (d j ≤ day ∧ day < d (j + 1)) := by
  induction k with
  | zero => intro i r h; cases h
  | succ k ih =>
    intro i r h j h1 h2
    unfold fiI at h
    split at h
    · injection h with h; omega
    · next g =>
      rcases Nat.eq_or_lt_of_le h1 with rfl | hl
      · exact g
      · exact ih h j hl h2
/-- The period of a day among dates. -/
def fnO (L : List Int) (day : Int) : Option Nat := fiI (fun i => L.getD i 0) 0 day (L.length - 1) 0
def fnV (L : List Int) (day : Int) : Int := match fnO L day with | some i => (i : Int) | none => 0
def fnE (L : List Int) (day : Int) : Int := match fnO L day with | some _ => 0 | none => 6
theorem fnd_of (L : List Int) (day : Int) : FndR L day (fnV L day) (fnE L day) := by
  constructor
  · intro i hi hno hp
    unfold fnV fnE
    cases h : fnO L day with
    | none => exact absurd hp (fiI_none _ h i (by omega) (by omega))
    | some r =>
      obtain ⟨-, h2, h3⟩ := fiI_some _ h
      have h4 := fiI_first _ h
      rcases Nat.lt_trichotomy i r with g | rfl | g
      · exact absurd hp (h4 i (by omega) g)
      · exact ⟨rfl, rfl⟩
      · exact absurd h3 (hno r g)
  · intro hno
    unfold fnV fnE
    cases h : fnO L day with
    | none => exact ⟨rfl, rfl⟩
    | some r =>
      obtain ⟨-, h2, h3⟩ := fiI_some _ h
      exact absurd h3 (hno r (by omega))
/-- Dates of a valid description are regular. -/
theorem regD_of {st en mo : Int} {bk la : Bool} {y m d : Int} (m0 : 1 ≤ mo) (hse : st < en) : RegD bk (stpV mo bk la y m d) (regN st en mo bk la y m d) st en := by
  obtain ⟨-, -, c, -⟩ := reg_spec (stpB st en mo bk la y m d) 101 0
  have hc : ∀ k, 0 < k → k ≤ regN st en mo bk la y m d → stpE mo bk la y m d k = 0 ∧ st < stpV mo bk la y m d k ∧ stpV mo bk la y m d k < en := fun k a b => by
    have := c k a b
    unfold stpB at this
    rw [Bool.and_eq_true, Bool.and_eq_true, decide_eq_true_eq, decide_eq_true_eq, decide_eq_true_eq] at this
    exact ⟨this.1.1, this.1.2, this.2⟩
  refine ⟨hse, fun k a b => (hc k a b).2, fun e j k a b c' => ?_, fun e j k a b c' => ?_⟩
  · subst e
    have e1 := (hc j a (by omega)).1
    have e2 := (hc k (by omega) c').1
    unfold stpE at e1 e2
    unfold stpV
    refine sm_lt ?_ e1 e2
    unfold mth
    simp only [Bool.false_eq_true, if_false]
    exact Int.mul_lt_mul_of_pos_right (by omega) (by omega)
  · subst e
    have e1 := (hc j a (by omega)).1
    have e2 := (hc k (by omega) c').1
    unfold stpE at e1 e2
    unfold stpV
    refine sm_lt ?_ e2 e1
    unfold mth
    simp only [if_true]
    have := Int.mul_lt_mul_of_pos_right (show (j : Int) < k by omega) (show (0 : Int) < mo by omega)
    rw [Int.neg_mul, Int.neg_mul]
    omega
section
variable (st en mo : Int) (bk la : Bool) (sb ro we : Int) (hs : List Int) (y m d : Int)
/-- The dates of a description, when there is no error. -/
theorem rdL_ok (h : rdE st en mo bk la sb ro we hs y m d = 0) : schB st en mo sb ro we hs = true ∧ rdL st en mo bk la sb ro we hs y m d = dtL bk (stpV mo bk la y m d) (rdN6 st en mo bk la sb y m d) st en ∧ rdN6 st en mo bk la sb y m d ≤ 98 ∧ regN st en mo bk la y m d ≤ 100 ∧ RegD bk (stpV mo bk la y m d) (rdN6 st en mo bk la sb y m d) st en := by
  have hL : rdL st en mo bk la sb ro we hs y m d = dtL bk (stpV mo bk la y m d) (rdN6 st en mo bk la sb y m d) st en := by unfold rdL; rw [if_pos h]
  unfold rdE at h
  split at h
  · next hv =>
    obtain ⟨-, -, -, hse, m0, -, -⟩ := (schB_iff st en mo sb ro we hs).1 hv
    split at h
    · cases h
    · next h1 =>
      split at h
      · cases h
      · next h2 =>
        refine ⟨hv, hL, by omega, by omega, (regD_of m0.1 hse).le ?_⟩
        unfold rdN6
        split <;> omega
  · cases h
theorem rdL_bad (h : rdE st en mo bk la sb ro we hs y m d ≠ 0) : rdL st en mo bk la sb ro we hs y m d = [] := by unfold rdL; rw [if_neg h]
variable (S : Int → Int → Bool)
/-- The rolled days and their errors. -/
def rolV (L : List Int) (i : Nat) : Int := rlV (S (L.getD i 0)) we hs (L.getD i 0) ro
def rolE (L : List Int) (i : Nat) : Int := rlE (S (L.getD i 0)) we hs (L.getD i 0) ro
def prOk (L : List Int) : Bool := (List.range L.length).all fun i => rolE ro we hs S L i == 0
def prE : Int := if rdE st en mo bk la sb ro we hs y m d = 0 then (if prOk ro we hs S (rdL st en mo bk la sb ro we hs y m d) then 0 else 40) else rdE st en mo bk la sb ro we hs y m d
def prR : List Per := if prE st en mo bk la sb ro we hs y m d S = 0 then pmkL (rdL st en mo bk la sb ro we hs y m d) (rolV ro we hs S (rdL st en mo bk la sb ro we hs y m d)) ((rdL st en mo bk la sb ro we hs y m d).length - 1) else []
theorem prOk_iff (L : List Int) : prOk ro we hs S L = true ↔ ∀ i, i < L.length → rolE ro we hs S L i = 0 := by
  unfold prOk
  rw [List.all_eq_true]
  constructor
  · intro h i hi
    simpa using h i (List.mem_range.2 hi)
  · intro h i hi
    simpa using h i (List.mem_range.1 hi)
theorem rolE_two (L : List Int) (i : Nat) (hi : i < L.length) (hv : valB we hs = true) (hro : ro ≤ 4) (hday : ∀ x ∈ L, 0 ≤ x ∧ x ≤ 99999) (h : rolE ro we hs S L i ≠ 0) : rolE ro we hs S L i = 40 := by
  have hx := hday (L.getD i 0) (by rw [List.getD_eq_getElem?_getD, List.getElem?_eq_getElem hi]; exact List.getElem_mem hi)
  unfold rolE rlE at *
  have hc : chkE we hs [L.getD i 0] = 0 := by rw [chk_oneC _ hv, (dayB_iff _).2 hx]; rfl
  rw [if_pos hc, if_pos hro] at *
  cases ho : rolO (S (L.getD i 0)) (bizB we hs) ro (L.getD i 0) with
  | none => rfl
  | some z => rw [ho] at h; exact absurd rfl h
theorem rdL_days (h : rdE st en mo bk la sb ro we hs y m d = 0) : ∀ x ∈ rdL st en mo bk la sb ro we hs y m d, 0 ≤ x ∧ x ≤ 99999 := by
  obtain ⟨hv, hL, -, -, hR⟩ := rdL_ok st en mo bk la sb ro we hs y m d h
  obtain ⟨-, s0, e0, -, -, -, -⟩ := (schB_iff st en mo sb ro we hs).1 hv
  rw [hL]
  intro x hx
  obtain ⟨i, hi, rfl⟩ := List.mem_map.1 hx
  have := hR.in_all (i := i) (by have := List.mem_range.1 hi; omega)
  omega
/-- The first error is ErrDate. -/
theorem pr_first (h : rdE st en mo bk la sb ro we hs y m d = 0) (hk : prOk ro we hs S (rdL st en mo bk la sb ro we hs y m d) = false) : ∀ i, i < (rdL st en mo bk la sb ro we hs y m d).length → rolE ro we hs S (rdL st en mo bk la sb ro we hs y m d) i ≠ 0 → rolE ro we hs S (rdL st en mo bk la sb ro we hs y m d) i = 40 := by
  obtain ⟨hv, -⟩ := rdL_ok st en mo bk la sb ro we hs y m d h
  obtain ⟨hval, -, -, -, -, -, hro⟩ := (schB_iff st en mo sb ro we hs).1 hv
  exact fun i hi g => rolE_two ro we hs S _ i hi hval hro (rdL_days st en mo bk la sb ro we hs y m d h) g
/-- What Find answers of a description. -/
def fdV (day : Int) : Int := if rdE st en mo bk la sb ro we hs y m d = 0 then (if dayB day then fnV (rdL st en mo bk la sb ro we hs y m d) day else 0) else 0
def fdE (day : Int) : Int := if rdE st en mo bk la sb ro we hs y m d = 0 then (if dayB day then fnE (rdL st en mo bk la sb ro we hs y m d) day else 2) else rdE st en mo bk la sb ro we hs y m d
end
/-- How many of the first dates are before a day. -/
theorem cnt_lt {f : Nat → Int} {day : Int} {i : Nat} (h0 : ∀ j, j < i → f j < day) : ∀ (m : Nat), (∀ j, i ≤ j → j < m → ¬ f j < day) → ((List.range m).map f).countP (· < day) = min i m := by
  intro m
  induction m with
  | zero => intro _; simp
  | succ m ih =>
    intro h1
    rw [List.range_succ, List.map_append, List.countP_append, ih (fun j a b => h1 j a (by omega))]
    rcases Nat.lt_or_ge m i with g | g
    · have := h0 m g
      simp [this]; omega
    · have := h1 m g (by omega)
      simp [this]; omega
theorem dtL_cnt {bk : Bool} {f : Nat → Int} {n : Nat} {st en : Int} (h : RegD bk f n st en) {day : Int} {i : Nat} (hi : i ≤ n) (h1 : dtI bk f n st en i ≤ day) (h2 : day < dtI bk f n st en (i + 1)) :
    (dtL bk f n st en).countP (· < day) = (if dtI bk f n st en i = day then i else i + 1) ∧ (dtL bk f n st en).contains day = decide (dtI bk f n st en i = day) := by
  have hup : ∀ j, i + 1 ≤ j → j < n + 2 → day < dtI bk f n st en j := fun j a b => by
    rcases Nat.eq_or_lt_of_le a with rfl | g
    · exact h2
    · have := h.mono g (by omega); omega
  have hdn : ∀ j, j < i → dtI bk f n st en j < day := fun j a => by have := h.mono a (by omega); omega
  constructor
  · unfold dtL dtP
    split
    · next e =>
      rw [cnt_lt (i := i) hdn (n + 2) (fun j a b => by
        rcases Nat.eq_or_lt_of_le a with rfl | g
        · omega
        · have := hup j g b; omega)]
      omega
    · next e =>
      rw [cnt_lt (i := i + 1) (fun j a => by
        rcases Nat.lt_or_ge j i with g | g
        · exact hdn j g
        · obtain rfl : j = i := by omega
          omega) (n + 2) (fun j a b => by have := hup j a b; omega)]
      omega
  · by_cases e : dtI bk f n st en i = day
    · rw [decide_eq_true e, List.contains_iff_mem]
      unfold dtL dtP
      exact List.mem_map.2 ⟨i, List.mem_range.2 (by omega), e⟩
    · rw [decide_eq_false e, Bool.eq_false_iff]
      intro g
      have g := List.contains_iff_mem.1 g
      unfold dtL dtP at g
      obtain ⟨j, hj, rfl⟩ := List.mem_map.1 g
      have hj := List.mem_range.1 hj
      rcases Nat.lt_trichotomy j i with k | rfl | k
      · have := hdn j k; omega
      · exact e rfl
      · have := hup j k hj; omega
theorem dtL_sorted {bk : Bool} {f : Nat → Int} {n : Nat} {st en : Int} (h : RegD bk f n st en) : (dtL bk f n st en).Pairwise (· ≤ ·) := by
  rw [List.pairwise_iff_getElem]
  intro i j hi hj hij
  have e1 := dt_get? bk f n st en i
  have e2 := dt_get? bk f n st en j
  rw [dtL_len] at hi hj
  rw [List.getElem?_eq_getElem (by rw [dtL_len]; exact hi), if_pos hi] at e1
  rw [List.getElem?_eq_getElem (by rw [dtL_len]; exact hj), if_pos hj] at e2
  injection e1 with e1
  injection e2 with e2
  rw [e1, e2]
  have := h.mono hij (by omega)
  omega
end Go.Proofs.YtfheeipggedaiaaDoor

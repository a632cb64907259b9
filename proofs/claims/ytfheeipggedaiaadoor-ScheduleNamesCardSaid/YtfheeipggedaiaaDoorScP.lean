/- Layer 6, plain: regular days as the program counts them, all of them; the dates as it lays them. -/
import Derived.Test.YtfheeipggedaiaaDoorScE
namespace Go.Proofs.YtfheeipggedaiaaDoor
open Go Go.RowKit

section
variable (st en mo : Int) (bk la : Bool) (sb ro we : Int) (hs : List Int) (y m d : Int)
/-- Is a day at the far end? -/
def atF (x : Int) : Bool := if bk then decide (x ≤ st) else decide (en ≤ x)
def regU : Nat := reg (stpB st en mo bk la y m d) 4001 0
def stubU : Bool := decide (stpE mo bk la y m d (regU st en mo bk la y m d + 1) ≠ 0) || decide (stpV mo bk la y m d (regU st en mo bk la y m d + 1) ≠ bsd en st bk)
def rdU : Nat := if 0 < regU st en mo bk la y m d ∧ sb = 1 ∧ stubU st en mo bk la y m d = true then regU st en mo bk la y m d - 1 else regU st en mo bk la y m d
variable {st en mo bk la sb ro we hs y m d}
theorem stpE_far {k : Nat} (m0 : 1 ≤ mo) (h : 4000 < k) : stpE mo bk la y m d k ≠ 0 := by
  unfold stpE smE mth
  rw [if_neg]
  · decide
  · have h1 : (k : Int) ≤ k * mo := by
      have := Int.mul_le_mul_of_nonneg_left m0 (show (0 : Int) ≤ k by omega)
      omega
    cases bk
    · simp only [Bool.false_eq_true, if_false]; omega
    · simp only [if_true, Int.neg_mul]; omega
theorem stp_zero (h : IsDate y m d (bsd st en bk)) (hb : bsd st en bk ≤ 99999) : stpE mo bk la y m d 0 = 0 ∧ stpV mo bk la y m d 0 = bsd st en bk := by
  have e : mth mo bk ((0 : Nat) : Int) = 0 := by unfold mth; cases bk <;> simp
  unfold stpE stpV
  rw [e]
  exact sm_zero la h hb
theorem stp_far {k : Nat} (m0 : 1 ≤ mo) (h : IsDate y m d (bsd st en bk)) (hb : bsd st en bk ≤ 99999) (k0 : 0 < k) (hE : stpE mo bk la y m d k = 0) : stpB st en mo bk la y m d k = !(atF st en bk (stpV mo bk la y m d k)) := by
  have h1 : (k : Int) ≤ k * mo := by
    have := Int.mul_le_mul_of_nonneg_left m0 (show (0 : Int) ≤ k by omega)
    omega
  unfold stpB
  rw [hE, decide_eq_true (rfl : (0 : Int) = 0), Bool.true_and]
  unfold stpE at hE
  unfold stpV
  cases bk
  · have g : (0 : Int) < mth mo false k := by unfold mth; simp only [Bool.false_eq_true, if_false]; omega
    have g1 := sm_after h hb g hE
    have e : bsd st en false = st := rfl
    rw [e] at g1
    unfold atF
    simp only [Bool.false_eq_true, if_false]
    generalize smV y m d (mth mo false k) la = v at *
    rw [decide_eq_true g1, Bool.true_and]
    by_cases q : v < en
    · rw [decide_eq_true q, decide_eq_false (by omega)]; rfl
    · rw [decide_eq_false q, decide_eq_true (by omega)]; rfl
  · have g : mth mo true k < 0 := by unfold mth; simp only [if_true, Int.neg_mul]; omega
    have g1 := sm_before h hb g hE
    have e : bsd st en true = en := rfl
    rw [e] at g1
    unfold atF
    simp only [if_true]
    generalize smV y m d (mth mo true k) la = v at *
    rw [decide_eq_true g1, Bool.and_true]
    by_cases q : st < v
    · rw [decide_eq_true q, decide_eq_false (by omega)]; rfl
    · rw [decide_eq_false q, decide_eq_true (by omega)]; rfl
theorem stpB_E {k : Nat} (h : stpB st en mo bk la y m d k = true) : stpE mo bk la y m d k = 0 := by
  unfold stpB at h
  rw [Bool.and_eq_true, Bool.and_eq_true, decide_eq_true_eq] at h
  exact h.1.1
/-- The regular days strictly between start and end. -/
theorem regU_spec (m0 : 1 ≤ mo) (hse : st < en) (h : IsDate y m d (bsd st en bk)) (hb : bsd st en bk ≤ 99999) :
    regU st en mo bk la y m d ≤ 4000 ∧ (∀ k, k ≤ regU st en mo bk la y m d → stpE mo bk la y m d k = 0 ∧ atF st en bk (stpV mo bk la y m d k) = false) ∧
    (stpE mo bk la y m d (regU st en mo bk la y m d + 1) = 0 → atF st en bk (stpV mo bk la y m d (regU st en mo bk la y m d + 1)) = true) ∧
    (∀ j, 0 < j → j ≤ regU st en mo bk la y m d → stpB st en mo bk la y m d j = true) ∧ stpB st en mo bk la y m d (regU st en mo bk la y m d + 1) = false := by
  obtain ⟨-, b, c, e⟩ := reg_spec (stpB st en mo bk la y m d) 4001 0
  have hR : reg (stpB st en mo bk la y m d) 4001 0 = regU st en mo bk la y m d := rfl
  rw [hR] at b c e
  generalize regU st en mo bk la y m d = R at *
  have hR0 : R ≤ 4000 := by
    rcases Nat.lt_or_ge 4000 R with g | g
    · exact absurd (stpB_E (c R (by omega) (by omega))) (stpE_far m0 g)
    · exact g
  have hB := e (by omega)
  refine ⟨hR0, fun k hk => ?_, fun g => ?_, c, hB⟩
  · rcases Nat.eq_zero_or_pos k with rfl | k0
    · obtain ⟨z1, z2⟩ := stp_zero (mo := mo) (la := la) h hb
      refine ⟨z1, ?_⟩
      rw [z2]
      unfold atF bsd
      cases bk
      · simp only [Bool.false_eq_true, if_false]; exact decide_eq_false (by omega)
      · simp only [if_true]; exact decide_eq_false (by omega)
    · have g1 := c k k0 hk
      have g2 := stpB_E g1
      refine ⟨g2, ?_⟩
      have g3 := stp_far m0 h hb k0 g2
      rw [g1] at g3
      cases q : atF st en bk (stpV mo bk la y m d k)
      · rfl
      · rw [q] at g3; cases g3
  · have g3 := stp_far m0 h hb (by omega) g
    rw [hB] at g3
    cases q : atF st en bk (stpV mo bk la y m d (R + 1))
    · rw [q] at g3; cases g3
    · rfl
/-- The reference's answers, in the program's numbers. -/
theorem rdE_U (m0 : 1 ≤ mo) (hse : st < en) (h : IsDate y m d (bsd st en bk)) (hb : bsd st en bk ≤ 99999) (hv : schB st en mo sb ro we hs = true) :
    (98 < rdU st en mo bk la sb y m d → rdE st en mo bk la sb ro we hs y m d = 4 ∧ rdL st en mo bk la sb ro we hs y m d = []) ∧
    (rdU st en mo bk la sb y m d ≤ 98 → rdE st en mo bk la sb ro we hs y m d = 0 ∧ rdL st en mo bk la sb ro we hs y m d = dtL bk (stpV mo bk la y m d) (rdU st en mo bk la sb y m d) st en) := by
  obtain ⟨-, -, -, c, e⟩ := regU_spec (la := la) m0 hse h hb
  have key : rdE st en mo bk la sb ro we hs y m d = (if 98 < rdU st en mo bk la sb y m d then 4 else 0) ∧ (rdU st en mo bk la sb y m d ≤ 98 → rdN6 st en mo bk la sb y m d = rdU st en mo bk la sb y m d) := by
    unfold rdE
    rw [hv, if_pos rfl]
    rcases Nat.lt_or_ge 100 (regU st en mo bk la y m d) with g | g
    · have h1 : regN st en mo bk la y m d = 101 := reg_of (fun j a b => c j a (by omega)) (Nat.le_refl _) (fun k => absurd k (by omega))
      have h2 : 98 < rdU st en mo bk la sb y m d := by unfold rdU; split <;> omega
      rw [h1, if_pos (by omega), if_pos h2]
      exact ⟨rfl, fun k => by omega⟩
    · have h1 : regN st en mo bk la y m d = regU st en mo bk la y m d := reg_of c (by omega) (fun _ => e)
      have h2 : stubB st en mo bk la y m d = stubU st en mo bk la y m d := by unfold stubB stubU; rw [h1]
      have h3 : rdN6 st en mo bk la sb y m d = rdU st en mo bk la sb y m d := by unfold rdN6 rdU; rw [h1, h2]
      rw [h1, if_neg (by omega), h3]
      exact ⟨rfl, fun _ => rfl⟩
  obtain ⟨k1, k2⟩ := key
  constructor
  · intro g
    rw [if_pos g] at k1
    refine ⟨k1, ?_⟩
    unfold rdL
    rw [k1, if_neg (by decide)]
  · intro g
    rw [if_neg (by omega)] at k1
    refine ⟨k1, ?_⟩
    unfold rdL
    rw [k1, if_pos rfl, k2 g]
end
/-- The dates as the program lays them: in the order of counting. -/
def cntL (f : Nat → Int) (n : Nat) : List Int := (List.range n).map f
theorem cntL_succ (f : Nat → Int) (n : Nat) : cntL f (n + 1) = cntL f n ++ [f n] := by unfold cntL; rw [List.range_succ, List.map_append]; rfl
theorem cntL_len (f : Nat → Int) (n : Nat) : (cntL f n).length = n := by unfold cntL; simp
theorem cntL_get (f : Nat → Int) (n i : Nat) (h : i < n) : (cntL f n)[i]? = some (f i) := by unfold cntL; rw [List.getElem?_map, List.getElem?_range h]; rfl
theorem dt_get? (bk : Bool) (f : Nat → Int) (n : Nat) (st en : Int) (j : Nat) : (dtL bk f n st en)[j]? = if j < n + 2 then some (dtI bk f n st en j) else none := by
  unfold dtL dtP
  rw [List.getElem?_map]
  split
  · next h => rw [List.getElem?_range h]; rfl
  · next h => rw [List.getElem?_eq_none (by simp; omega)]; rfl
theorem dtL_fwd (f : Nat → Int) (n : Nat) (st en : Int) (h0 : f 0 = st) : cntL f (n + 1) ++ [en] = dtL false f n st en := by
  apply List.ext_getElem?
  intro i
  rw [dt_get?]
  rcases Nat.lt_trichotomy i (n + 1) with g | g | g
  · rw [List.getElem?_append_left (by rw [cntL_len]; exact g), cntL_get _ _ _ g, if_pos (by omega)]
    rcases Nat.eq_zero_or_pos i with rfl | i0
    · rw [dtI_zero, h0]
    · rw [dtI_mid _ _ _ _ _ i0 (by omega)]; rfl
  · subst g
    rw [List.getElem?_append_right (by rw [cntL_len]; omega), cntL_len, if_pos (by omega), dtI_end]; simp
  · rw [List.getElem?_eq_none (by simp [cntL_len]; omega), if_neg (by omega)]
theorem dtL_bwd (f : Nat → Int) (n : Nat) (st en : Int) (h0 : f 0 = en) : (cntL f (n + 1) ++ [st]).reverse = dtL true f n st en := by
  apply List.ext_getElem?
  intro i
  rw [dt_get?]
  have hl : (cntL f (n + 1) ++ [st]).length = n + 2 := by rw [List.length_append, cntL_len]; rfl
  rcases Nat.lt_or_ge i (n + 2) with g | g
  · rw [List.getElem?_reverse (by rw [hl]; exact g), hl, if_pos g]
    rcases Nat.eq_zero_or_pos i with rfl | i0
    · rw [dtI_zero, List.getElem?_append_right (by rw [cntL_len]; omega), cntL_len]; simp
    · rw [List.getElem?_append_left (by rw [cntL_len]; omega), cntL_get _ _ _ (by omega)]
      rcases Nat.eq_or_lt_of_le (show i ≤ n + 1 by omega) with rfl | g2
      · rw [dtI_end, show n + 2 - 1 - (n + 1) = 0 by omega, h0]
      · rw [dtI_mid _ _ _ _ _ i0 (by omega), if_pos rfl, show n + 2 - 1 - i = n + 1 - i by omega]
  · rw [List.getElem?_eq_none (by rw [List.length_reverse, hl]; exact g), if_neg (by omega)]
end Go.Proofs.YtfheeipggedaiaaDoor

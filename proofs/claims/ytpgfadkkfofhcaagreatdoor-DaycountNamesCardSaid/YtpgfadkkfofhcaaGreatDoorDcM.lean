/- Layer 5, plain: days by the rules, days of leap years and of other years before a day. -/
import Derived.Test.YtpgfadkkfofhcaaGreatDoorDatM
namespace Go.Proofs.YtpgfadkkfofhcaaGreatDoor
open Go

/-- Days with months of 30 days, before a date. -/
def thD (y m d : Int) : Int := 360 * y + 30 * m + min d 30
/-- Days by rule 2. -/
def thirty (y1 m1 d1 y2 m2 d2 : Int) : Int := thD y2 m2 d2 - thD y1 m1 d1
/-- Days by rule 4. -/
def bond (y1 m1 d1 y2 m2 d2 : Int) : Int := 360 * (y2 - y1) + 30 * (m2 - m1) + (if min d1 30 < 30 then d2 else min d2 30) - min d1 30
theorem bond_thirty {y1 m1 d1 y2 m2 d2 : Int} (h : d2 ≤ 31) : bond y1 m1 d1 y2 m2 d2 = thirty y1 m1 d1 y2 m2 d2 + (if d2 = 31 ∧ d1 < 30 then 1 else 0) := by
  unfold bond thirty thD
  split <;> split <;> omega
/-- Later dates do not come to fewer days. -/
theorem thD_mono {y m d n y' m' d' n' : Int} (h : IsDate y m d n) (h' : IsDate y' m' d' n') (hl : n ≤ n') : thD y m d ≤ thD y' m' d' := by
  have hd := h.d31
  have hd' := h'.d31
  have e := h.d0
  have e' := h'.d0
  have m0 := h.m0
  have m1 := h.m1
  have m0' := h'.m0
  have m1' := h'.m1
  unfold thD
  rcases Int.lt_or_eq_of_le hl with hl | rfl
  · rcases (h.lex h').1 hl with g | ⟨rfl, g | ⟨rfl, g⟩⟩ <;> omega
  · obtain ⟨rfl, rfl, rfl⟩ := h.uniq h'
    omega
theorem bond_mono {y m d y' m' d' n' y2 m2 d2 n2 : Int} (h : IsDate y' m' d' n') (h' : IsDate y2 m2 d2 n2) (hl : n' ≤ n2) : bond y m d y' m' d' ≤ bond y m d y2 m2 d2 := by
  have hd := h.d31
  have hd' := h'.d31
  have e := h.d0
  have e' := h'.d0
  have m0 := h.m0
  have m1 := h.m1
  have m0' := h'.m0
  have m1' := h'.m1
  unfold bond
  rcases Int.lt_or_eq_of_le hl with hl | rfl
  · rcases (h.lex h').1 hl with g | ⟨rfl, g | ⟨rfl, g⟩⟩ <;> split <;> omega
  · obtain ⟨rfl, rfl, rfl⟩ := h.uniq h'
    omega
/-- Leap years before a year. -/
def lvs (y : Int) : Int := foy y - 365 * (y - 1900)
theorem lvs_succ (y : Int) : lvs (y + 1) = lvs y + (if leapB y then 1 else 0) := by
  unfold lvs
  rw [foy_succ, mo12]
  split <;> omega
theorem lvs_1900 : lvs 1900 = 0 := by decide
/-- Days of leap years before a day of the year y; of other years. -/
def lpD (y n : Int) : Int := 366 * lvs y + (if leapB y then n - foy y else 0)
def cmD (y n : Int) : Int := 365 * (y - 1900 - lvs y) + (if leapB y then 0 else n - foy y)
theorem lp_cm (y n : Int) : lpD y n + cmD y n = n := by
  unfold lpD cmD lvs
  split <;> omega
theorem lp_first (y : Int) : lpD y (foy y) = 366 * lvs y ∧ cmD y (foy y) = 365 * (y - 1900 - lvs y) := by
  unfold lpD cmD
  split <;> omega
/-- The same, up to the first day of a year z. -/
def lpZ (y n z : Int) : Int := if z ≤ y then 366 * lvs z else lpD y n
def cmZ (y n z : Int) : Int := if z ≤ y then 365 * (z - 1900 - lvs z) else cmD y n
theorem foy_len (y : Int) : foy (y + 1) = foy y + 365 + (if leapB y then 1 else 0) := by rw [foy_succ, mo12]; omega
theorem IsDate.in_y {y m d n : Int} (h : IsDate y m d n) : foy y ≤ n ∧ n < foy (y + 1) := by
  have := h.le12
  have := h.eq
  have := h.d0
  have h1 := foy_succ y
  have h2 := mo_mono y 0 (m - 1).toNat (by omega)
  have h3 : mo y 0 = 0 := rfl
  omega
/-- One year of a count year by year. -/
theorem lpZ_step {y n z : Int} (h : foy y ≤ n ∧ n < foy (y + 1)) : lpZ y n (z + 1) = lpZ y n z + (if leapB z then min n (foy (z + 1)) - min n (foy z) else 0) ∧ cmZ y n (z + 1) = cmZ y n z + (if leapB z then 0 else min n (foy (z + 1)) - min n (foy z)) := by
  have hz := foy_len z
  have hs := lvs_succ z
  have hm := foy_mono z (z + 1) (by omega)
  unfold lpZ cmZ
  by_cases h1 : z + 1 ≤ y
  · have g1 := foy_mono (z + 1) y h1
    have q1 : min n (foy z) = foy z := by omega
    have q2 : min n (foy (z + 1)) = foy (z + 1) := by omega
    have h0 : z ≤ y := by omega
    simp only [h1, h0, if_true, hs, q1, q2]
    cases hl : leapB z
    · rw [hl] at hz
      simp only [Bool.false_eq_true, if_false] at hz ⊢
      omega
    · rw [hl] at hz
      simp only [if_true] at hz ⊢
      omega
  · rw [if_neg h1, if_neg h1]
    by_cases h2 : z ≤ y
    · obtain rfl : z = y := by omega
      have q1 : min n (foy z) = foy z := by omega
      have q2 : min n (foy (z + 1)) = n := by omega
      have h0 : z ≤ z := Int.le_refl z
      simp only [h0, if_true, q1, q2]
      unfold lpD cmD
      cases hl : leapB z <;> simp <;> omega
    · have g1 := foy_mono (y + 1) z (by omega)
      have q1 : min n (foy z) = n := by omega
      have q2 : min n (foy (z + 1)) = n := by omega
      simp only [h2, if_false, q1, q2]
      cases hl : leapB z <;> simp
/-- What a year adds to the count of the days from low on and before high. -/
theorem span_year {low high z : Int} (h : low ≤ high) : max (min high (foy (z + 1)) - max low (foy z)) 0 = (min high (foy (z + 1)) - min high (foy z)) - (min low (foy (z + 1)) - min low (foy z)) := by
  have hz := foy_mono z (z + 1) (by omega)
  omega
theorem lpZ_1900 {y n : Int} (h : 1900 ≤ y) : lpZ y n 1900 = 0 ∧ cmZ y n 1900 = 0 := by
  unfold lpZ cmZ
  simp only [h, if_true, lvs_1900]
  decide
theorem lpZ_end {y n z : Int} (h : y < z) : lpZ y n z = lpD y n ∧ cmZ y n z = cmD y n := by
  unfold lpZ cmZ
  rw [if_neg (by omega), if_neg (by omega)]
  exact ⟨rfl, rfl⟩
theorem lvs_bd {y : Int} (h : 1900 ≤ y) : 0 ≤ lvs y ∧ lvs y ≤ y - 1900 := by
  unfold lvs foy
  omega
theorem lpD_bd {y n : Int} (h : 1900 ≤ y) (hn : foy y ≤ n ∧ n < foy (y + 1)) : 0 ≤ lpD y n ∧ 0 ≤ cmD y n ∧ lpD y n ≤ n ∧ cmD y n ≤ n := by
  have h1 := lvs_bd h
  have h2 := lp_cm y n
  have h3 : 0 ≤ lpD y n := by unfold lpD; split <;> omega
  have h4 : 0 ≤ cmD y n := by unfold cmD; split <;> omega
  omega
/-- Years by rule 3, before a day. -/
def actQ (y n : Int) : Rat := (cmD y n : Rat) / 365 + (lpD y n : Rat) / 366
theorem actQ_first (y : Int) : actQ y (foy y) = ((y - 1900 : Int) : Rat) := by
  unfold actQ
  rw [(lp_first y).1, (lp_first y).2, Rat.intCast_mul, Rat.intCast_mul]
  have h1 : ((365 : Int) : Rat) = 365 := rfl
  have h2 : ((366 : Int) : Rat) = 366 := rfl
  have h3 : ((y - 1900 - lvs y : Int) : Rat) = ((y - 1900 : Int) : Rat) - (lvs y : Rat) := Rat.intCast_sub _ _
  rw [h1, h2, h3]
  grind
/-- n months of 30 days of a year of 360. -/
theorem months_360 (n : Int) : ((30 * n : Int) : Rat) / 360 = (n : Rat) / 12 := by
  rw [Rat.intCast_mul]
  have h1 : ((30 : Int) : Rat) = 30 := rfl
  rw [h1]
  grind
end Go.Proofs.YtpgfadkkfofhcaaGreatDoor

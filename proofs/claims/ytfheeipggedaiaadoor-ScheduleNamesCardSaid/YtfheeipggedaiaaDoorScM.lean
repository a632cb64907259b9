/- Layer 6, plain: regular days, how many there are, lists of dates; rolled days do not decrease. -/
import Derived.Test.YtfheeipggedaiaaDoorCalE
namespace Go.Proofs.YtfheeipggedaiaaDoor
open Go Go.RowKit

/-- What AddMonths answers of a day of the date y, m, d: its day, its error. -/
def smV (y m d n : Int) (la : Bool) : Int := if -4000 ≤ n ∧ n ≤ 4000 then amV y m d n la else 0
def smE (y m d n : Int) (la : Bool) : Int := if -4000 ≤ n ∧ n ≤ 4000 then amE y m d n la else 2
theorem smE_cases (y m d n : Int) (la : Bool) : smE y m d n la = 0 ∨ smE y m d n la = 2 ∨ smE y m d n la = 40 := by
  unfold smE amE
  split
  · split
    · exact .inl rfl
    · exact .inr (.inr rfl)
  · exact .inr (.inl rfl)
theorem smE_date {y m d n : Int} {la : Bool} (h : smE y m d n la = 0) : IsDate (mvY y m n) (mvM y m n) (amD y m d n la) (smV y m d n la) ∧ smV y m d n la ≤ 99999 ∧ -4000 ≤ n ∧ n ≤ 4000 := by
  unfold smE at h
  split at h
  · next hn =>
    have hv : smV y m d n la = amV y m d n la := if_pos hn
    unfold amE at h
    split at h
    · next hk =>
      obtain ⟨h1, h2⟩ := okB_date hk
      have e : amV y m d n la = dayI (mvY y m n) (mvM y m n) (amD y m d n la) := by unfold amV ofV; rw [if_pos hk]
      rw [hv, e]
      exact ⟨h1, h2, hn⟩
    · cases h
  · cases h
theorem smV_bad {y m d n : Int} {la : Bool} (h : ¬ smE y m d n la = 0) : smV y m d n la = 0 := by
  unfold smE at h
  unfold smV
  split at h
  · next hn =>
    rw [if_pos hn]
    unfold amE at h
    split at h
    · exact absurd rfl h
    · next hk => unfold amV ofV; rw [if_neg hk]
  · next hn => rw [if_neg hn]
/-- More months lead to a later day. -/
theorem sm_lt {y m d n1 n2 : Int} {la : Bool} (hn : n1 < n2) (h1 : smE y m d n1 la = 0) (h2 : smE y m d n2 la = 0) : smV y m d n1 la < smV y m d n2 la := by
  have d1 := (smE_date h1).1
  have d2 := (smE_date h2).1
  refine (d1.lex d2).2 ?_
  unfold mvY mvM
  omega
theorem sm_zero {y m d b : Int} (la : Bool) (h : IsDate y m d b) (hb : b ≤ 99999) : smE y m d 0 la = 0 ∧ smV y m d 0 la = b := by
  have m0 := h.m0
  have m1 := h.m1
  have hd := h.d1
  have e1 : mvY y m 0 = y := by unfold mvY; omega
  have e2 : mvM y m 0 = m := by unfold mvM; omega
  have e3 : amD y m d 0 la = d := by
    unfold amD
    rw [e1, e2]
    split
    · next g => simp at g; omega
    · omega
  have hk : okB (mvY y m 0) (mvM y m 0) (amD y m d 0 la) = true := by rw [e1, e2, e3]; exact h.ok hb
  constructor
  · unfold smE amE; rw [if_pos (by omega), if_pos hk]
  · unfold smV amV ofV; rw [if_pos (by omega), if_pos hk, e1, e2, e3, h.day_eq]
theorem sm_after {y m d b n : Int} {la : Bool} (h : IsDate y m d b) (hb : b ≤ 99999) (hn : 0 < n) (hE : smE y m d n la = 0) : b < smV y m d n la := by
  obtain ⟨e1, e2⟩ := sm_zero la h hb
  have := sm_lt hn e1 hE
  omega
theorem sm_before {y m d b n : Int} {la : Bool} (h : IsDate y m d b) (hb : b ≤ 99999) (hn : n < 0) (hE : smE y m d n la = 0) : smV y m d n la < b := by
  obtain ⟨e1, e2⟩ := sm_zero la h hb
  have := sm_lt hn hE e1
  omega

/-- How many of f 1, f 2, .. hold, up to the first that does not. -/
def reg (f : Nat → Bool) : Nat → Nat → Nat
  | 0, k => k
  | n + 1, k => if f (k + 1) then reg f n (k + 1) else k
theorem reg_spec (f : Nat → Bool) (n : Nat) : ∀ k, k ≤ reg f n k ∧ reg f n k ≤ k + n ∧ (∀ j, k < j → j ≤ reg f n k → f j = true) ∧ (reg f n k < k + n → f (reg f n k + 1) = false) := by
  induction n with
  | zero => intro k; exact ⟨Nat.le_refl _, Nat.le_refl _, fun j h1 h2 => absurd h2 (by simp [reg]; omega), fun h => absurd h (by simp [reg])⟩
  | succ n ih =>
    intro k
    unfold reg
    cases h : f (k + 1)
    · rw [if_neg (by decide)]
      exact ⟨Nat.le_refl _, by omega, fun j h1 h2 => absurd h2 (by omega), fun _ => h⟩
    · rw [if_pos rfl]
      obtain ⟨a, b, c, d⟩ := ih (k + 1)
      refine ⟨by omega, by omega, fun j h1 h2 => ?_, fun g => d (by omega)⟩
      rcases Nat.lt_or_ge (k + 1) j with g | g
      · exact c j g h2
      · obtain rfl : j = k + 1 := by omega
        exact h
theorem reg_of {f : Nat → Bool} {n r : Nat} (h : ∀ j, 0 < j → j ≤ r → f j = true) (hr : r ≤ n) (hn : r < n → f (r + 1) = false) : reg f n 0 = r := by
  obtain ⟨_, b, c, d⟩ := reg_spec f n 0
  rcases Nat.lt_trichotomy (reg f n 0) r with g | g | g
  · have h1 := d (by omega)
    rw [h _ (by omega) (by omega)] at h1
    cases h1
  · exact g
  · have h1 := c (r + 1) (by omega) (by omega)
    rw [hn (by omega)] at h1
    cases h1

/-- A rolled day is not before that of an earlier day. -/
theorem fw_iffS (p : Int → Bool) (d n r : Int) (h0 : 0 ≤ d) (h1 : d ≤ 100000) (hn : 1 ≤ n) : fwO p d n = some r ↔ (p r = true ∧ d ≤ r ∧ r ≤ 99999 ∧ cumI p r = cumI p d + (n - 1)) := nth_fwd p _ d n r (At.fwd d h0 h1) hn
theorem bw_iffS (p : Int → Bool) (d n r : Int) (h0 : -1 ≤ d) (h1 : d ≤ 99999) (hn : 1 ≤ n) : bwO p d n = some r ↔ (p r = true ∧ 0 ≤ r ∧ r ≤ d ∧ cumI p (d + 1) = cumI p r + n) := nth_bwd p _ d n r (At.bwd d h0 h1) hn
theorem fw_mono {p : Int → Bool} {a b r s : Int} (a0 : 0 ≤ a) (hab : a ≤ b) (b1 : b ≤ 99999) (h : fwO p a 1 = some r) (h2 : fwO p b 1 = some s) : r ≤ s := by
  obtain ⟨h3, h4, h5, h6⟩ := (fw_iffS p a 1 r a0 (by omega) (by omega)).1 h
  obtain ⟨g3, g4, g5, g6⟩ := (fw_iffS p b 1 s (by omega) (by omega) (by omega)).1 h2
  rcases Int.lt_or_le s r with k | k
  · have k1 := cumI_lt p (by omega) k g3
    have k2 := (cumI_mono p a0 hab).1
    omega
  · exact k
theorem bw_mono {p : Int → Bool} {a b r s : Int} (a0 : 0 ≤ a) (hab : a ≤ b) (b1 : b ≤ 99999) (h : bwO p a 1 = some r) (h2 : bwO p b 1 = some s) : r ≤ s := by
  obtain ⟨h3, h4, h5, h6⟩ := (bw_iffS p a 1 r (by omega) (by omega) (by omega)).1 h
  obtain ⟨g3, g4, g5, g6⟩ := (bw_iffS p b 1 s (by omega) (by omega) (by omega)).1 h2
  rcases Int.lt_or_le s r with k | k
  · have k1 := cumI_lt p (by omega) k g3
    have k2 := (cumI_mono p (a := a + 1) (b := b + 1) (by omega) (by omega)).1
    omega
  · exact k
/-- No business day lies between a day and the next one. -/
theorem fw_least {p : Int → Bool} {a r t : Int} (a0 : 0 ≤ a) (a1 : a ≤ 99999) (h : fwO p a 1 = some r) (ht : p t = true) (hat : a ≤ t) : r ≤ t := by
  obtain ⟨h3, h4, h5, h6⟩ := (fw_iffS p a 1 r a0 (by omega) (by omega)).1 h
  rcases Int.lt_or_le t r with k | k
  · have k1 := cumI_lt p (by omega) k ht
    have k2 := (cumI_mono p a0 hat).1
    omega
  · exact k
theorem bw_most {p : Int → Bool} {a r t : Int} (a1 : a ≤ 99999) (t0 : 0 ≤ t) (h : bwO p a 1 = some r) (ht : p t = true) (hat : t ≤ a) : t ≤ r := by
  obtain ⟨h3, h4, h5, h6⟩ := (bw_iffS p a 1 r (by omega) (by omega) (by omega)).1 h
  rcases Int.lt_or_le r t with k | k
  · have k1 := cumI_lt p (by omega) k h3
    have k2 := cumI_succ p t t0
    rw [ht] at k2
    simp only [if_true] at k2
    have k3 := (cumI_mono p (a := t + 1) (b := a + 1) (by omega) (by omega)).1
    omega
  · exact k
theorem fw_some {p : Int → Bool} {a b s : Int} (a0 : 0 ≤ a) (hab : a ≤ b) (b1 : b ≤ 99999) (h : fwO p b 1 = some s) : ∃ r, fwO p a 1 = some r := by
  obtain ⟨g3, g4, g5, g6⟩ := (fw_iffS p b 1 s (by omega) (by omega) (by omega)).1 h
  have key : ∀ n : Nat, ∀ a : Int, 0 ≤ a → a ≤ s → (s - a).toNat = n → ∃ r, fwO p a 1 = some r := by
    intro n
    induction n with
    | zero => intro a x y z; obtain rfl : a = s := by omega
              exact ⟨a, (fw_iffS p a 1 a x (by omega) (by omega)).2 ⟨g3, by omega, g5, by omega⟩⟩
    | succ n ih =>
      intro a x y z
      cases hp : p a
      · obtain ⟨r, hr⟩ := ih (a + 1) (by omega) (by omega) (by omega)
        obtain ⟨q1, q2, q3, q4⟩ := (fw_iffS p (a + 1) 1 r (by omega) (by omega) (by omega)).1 hr
        have q5 := cumI_succ p a x
        rw [hp] at q5
        simp only [Bool.false_eq_true, if_false] at q5
        exact ⟨r, (fw_iffS p a 1 r x (by omega) (by omega)).2 ⟨q1, by omega, q3, by omega⟩⟩
      · exact ⟨a, (fw_iffS p a 1 a x (by omega) (by omega)).2 ⟨hp, by omega, by omega, by omega⟩⟩
  exact key _ a a0 (by omega) rfl
/-- The same month is the same month in between, too. -/
theorem smIs_self {day : Int} {S : Int → Bool} (h : SmIs day S) (h0 : 0 ≤ day) : S day = true := by
  obtain ⟨y, m, d, hd⟩ := isDate_of day h0
  rw [h day y m d y m d hd hd]; simp
theorem smIs_mid {a b t : Int} {S T : Int → Bool} (hS : SmIs a S) (hT : SmIs b T) (a0 : 0 ≤ a) (hab : a ≤ b) (hbt : b ≤ t) (h : S t = true) : T t = true ∧ S b = true ∧ T a = true := by
  obtain ⟨y, m, d, ha⟩ := isDate_of a a0
  obtain ⟨y', m', d', hb⟩ := isDate_of b (by omega)
  obtain ⟨y2, m2, d2, ht⟩ := isDate_of t (by omega)
  rw [hS t y m d y2 m2 d2 ha ht] at h
  rw [hT t y' m' d' y2 m2 d2 hb ht, hS b y m d y' m' d' ha hb, hT a y' m' d' y m d hb ha]
  have e : y = y2 ∧ m = m2 := by simpa using h
  have k1 := hb.lex ha
  have k2 := ht.lex hb
  obtain ⟨rfl, rfl⟩ := e
  have : y' = y ∧ m' = m := by omega
  obtain ⟨rfl, rfl⟩ := this
  simp
theorem smIs_low {a b t : Int} {S T : Int → Bool} (hS : SmIs a S) (hT : SmIs b T) (t0 : 0 ≤ t) (hta : t ≤ a) (hab : a ≤ b) (h : T t = true) : S t = true := by
  obtain ⟨y, m, d, ha⟩ := isDate_of a (by omega)
  obtain ⟨y', m', d', hb⟩ := isDate_of b (by omega)
  obtain ⟨y2, m2, d2, ht⟩ := isDate_of t t0
  rw [hT t y' m' d' y2 m2 d2 hb ht] at h
  rw [hS t y m d y2 m2 d2 ha ht]
  have e : y' = y2 ∧ m' = m2 := by simpa using h
  have k1 := hb.lex ha
  have k2 := ha.lex ht
  obtain ⟨rfl, rfl⟩ := e
  have : y = y' ∧ m = m' := by omega
  obtain ⟨rfl, rfl⟩ := this
  simp
theorem bw_some {p : Int → Bool} {a t : Int} (t0 : 0 ≤ t) (hta : t ≤ a) (a1 : a ≤ 99999) (ht : p t = true) : ∃ r, bwO p a 1 = some r := by
  have key : ∀ n : Nat, ∀ a : Int, t ≤ a → a ≤ 99999 → (a - t).toNat = n → ∃ r, bwO p a 1 = some r := by
    intro n
    induction n with
    | zero =>
      intro a x y z
      obtain rfl : a = t := by omega
      have q5 := cumI_succ p a t0
      rw [ht] at q5
      simp only [if_true] at q5
      exact ⟨a, (bw_iffS p a 1 a (by omega) y (by omega)).2 ⟨ht, t0, by omega, q5⟩⟩
    | succ n ih =>
      intro a x y z
      have q5 := cumI_succ p a (by omega)
      cases hp : p a
      · obtain ⟨r, hr⟩ := ih (a - 1) (by omega) (by omega) (by omega)
        obtain ⟨q1, q2, q3, q4⟩ := (bw_iffS p (a - 1) 1 r (by omega) (by omega) (by omega)).1 hr
        rw [hp] at q5
        simp only [Bool.false_eq_true, if_false] at q5
        rw [show a - 1 + 1 = a by omega] at q4
        exact ⟨r, (bw_iffS p a 1 r (by omega) y (by omega)).2 ⟨q1, q2, by omega, by omega⟩⟩
      · rw [hp] at q5
        simp only [if_true] at q5
        exact ⟨a, (bw_iffS p a 1 a (by omega) y (by omega)).2 ⟨hp, by omega, by omega, q5⟩⟩
  exact key _ a hta a1 rfl
theorem keepO_split {S : Int → Bool} {x y : Option Int} {r : Int} (h : keepO S x y = some r) : (x = some r ∧ S r = true) ∨ (y = some r ∧ ∀ t, x = some t → S t = false) := by
  cases x with
  | none => exact .inr ⟨h, fun t ht => by cases ht⟩
  | some t =>
    have k : (if S t then some t else y) = some r := h
    clear h
    cases hs : S t
    · simp only [hs, Bool.false_eq_true, if_false] at k
      exact .inr ⟨k, fun u hu => by injection hu with hu; rw [← hu]; exact hs⟩
    · simp only [hs, if_true] at k
      have e : t = r := by injection k
      subst e
      exact .inl ⟨rfl, hs⟩
theorem rol_mono {p S T : Int → Bool} {r a b x z : Int} (hS : SmIs a S) (hT : SmIs b T) (a0 : 0 ≤ a) (hab : a ≤ b) (b1 : b ≤ 99999) (h : rolO S p r a = some x) (h2 : rolO T p r b = some z) : x ≤ z := by
  unfold rolO at h h2
  split at h
  · next e => rw [if_pos e] at h2; injection h with h; injection h2 with h2; omega
  next e0 =>
  rw [if_neg e0] at h2
  split at h
  · next e => rw [if_pos e] at h2; exact fw_mono a0 hab b1 h h2
  next e1 =>
  rw [if_neg e1] at h2
  split at h
  · next e => rw [if_pos e] at h2; exact bw_mono a0 hab b1 h h2
  next e2 =>
  rw [if_neg e2] at h2
  split at h
  · next e =>
    rw [if_pos e] at h2
    rcases keepO_split h with ⟨h3, h4⟩ | ⟨h3, h4⟩
    · rcases keepO_split h2 with ⟨g3, g4⟩ | ⟨g3, g4⟩
      · exact fw_mono a0 hab b1 h3 g3
      · obtain ⟨k1, k2, k3, k4⟩ := (fw_iffS p a 1 x a0 (by omega) (by omega)).1 h3
        rcases Int.lt_or_le b x with k | k
        · have hTx := (smIs_mid hS hT a0 hab (by omega) h4).1
          have hb : fwO p b 1 = some x := by
            have c1 := (cumI_mono p a0 hab).1
            have c2 := (cumI_mono p (a := b) (b := x) (by omega) (by omega)).1
            exact (fw_iffS p b 1 x (by omega) (by omega) (by omega)).2 ⟨k1, by omega, k3, by omega⟩
          rw [g4 x hb] at hTx
          cases hTx
        · exact bw_most b1 (by omega) g3 k1 k
    · obtain ⟨k1, k2, k3, k4⟩ := (bw_iffS p a 1 x (by omega) (by omega) (by omega)).1 h3
      rcases keepO_split h2 with ⟨g3, g4⟩ | ⟨g3, g4⟩
      · obtain ⟨m1, m2, m3, m4⟩ := (fw_iffS p b 1 z (by omega) (by omega) (by omega)).1 g3
        omega
      · exact bw_mono a0 hab b1 h3 g3
  · next e =>
    rw [if_neg e] at h2
    rcases keepO_split h with ⟨h3, h4⟩ | ⟨h3, h4⟩
    · obtain ⟨k1, k2, k3, k4⟩ := (bw_iffS p a 1 x (by omega) (by omega) (by omega)).1 h3
      rcases keepO_split h2 with ⟨g3, g4⟩ | ⟨g3, g4⟩
      · exact bw_mono a0 hab b1 h3 g3
      · obtain ⟨m1, m2, m3, m4⟩ := (fw_iffS p b 1 z (by omega) (by omega) (by omega)).1 g3
        omega
    · rcases keepO_split h2 with ⟨g3, g4⟩ | ⟨g3, g4⟩
      · obtain ⟨m1, m2, m3, m4⟩ := (bw_iffS p b 1 z (by omega) (by omega) (by omega)).1 g3
        rcases Int.lt_or_le z a with k | k
        · have hSz := smIs_low hS hT m2 (by omega) hab g4
          obtain ⟨t, ht⟩ := bw_some m2 (by omega) (by omega) m1 (a := a)
          have t1 := bw_mono a0 hab b1 ht g3
          have t2 := bw_most (by omega) m2 ht m1 (by omega)
          obtain rfl : t = z := by omega
          rw [h4 t ht] at hSz
          cases hSz
        · exact fw_least a0 (by omega) h3 m1 k
      · exact fw_mono a0 hab b1 h3 g3
end Go.Proofs.YtfheeipggedaiaaDoor

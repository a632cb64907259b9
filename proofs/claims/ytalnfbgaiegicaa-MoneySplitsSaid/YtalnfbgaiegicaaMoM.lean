/- Joined: MoM, MoP, MoQ, MoS. -/
import Derived.ProofKit
import Derived.Sort.LotA
/- Layer 7, plain: a total split by weights: quotients, remainders, who gets a unit more. -/
namespace Go.Proofs.Ytalnfbgaiegicaa
open Go

/-- The sum of f over the first n numbers; how many of them have p. -/
def smF (f : Nat → Int) : Nat → Int
  | 0 => 0
  | n + 1 => smF f n + f n
def cnF (p : Nat → Bool) : Nat → Nat
  | 0 => 0
  | n + 1 => cnF p n + (if p n then 1 else 0)
theorem smF_ext {f g : Nat → Int} {n : Nat} (h : ∀ i, i < n → f i = g i) : smF f n = smF g n := by
  induction n with
  | zero => rfl
  | succ n ih => simp only [smF]; rw [ih (fun i hi => h i (by omega)), h n (by omega)]
theorem smF_add (f g : Nat → Int) (n : Nat) : smF (fun i => f i + g i) n = smF f n + smF g n := by
  induction n with
  | zero => rfl
  | succ n ih => simp only [smF]; rw [ih]; omega
theorem smF_mul (c : Int) (f : Nat → Int) (n : Nat) : smF (fun i => c * f i) n = c * smF f n := by
  induction n with
  | zero => simp [smF]
  | succ n ih => simp only [smF]; rw [ih, Int.mul_add]
theorem smF_le {f g : Nat → Int} {n : Nat} (h : ∀ i, i < n → f i ≤ g i) : smF f n ≤ smF g n := by
  induction n with
  | zero => exact Int.le_refl _
  | succ n ih => simp only [smF]; have := ih (fun i hi => h i (by omega)); have := h n (by omega); omega
theorem smF_nonneg {f : Nat → Int} {n : Nat} (h : ∀ i, i < n → 0 ≤ f i) : 0 ≤ smF f n := by
  induction n with
  | zero => exact Int.le_refl _
  | succ n ih => simp only [smF]; have := ih (fun i hi => h i (by omega)); have := h n (by omega); omega
theorem smF_mem {f : Nat → Int} {n : Nat} (h : ∀ i, i < n → 0 ≤ f i) {i : Nat} (hi : i < n) : f i ≤ smF f n := by
  induction n with
  | zero => omega
  | succ n ih =>
    simp only [smF]
    have h0 := smF_nonneg (f := f) (n := n) (fun j hj => h j (by omega))
    have hn := h n (by omega)
    rcases Nat.lt_or_ge i n with g | g
    · have := ih (fun j hj => h j (by omega)) g; omega
    · obtain rfl : i = n := by omega
      omega
theorem smF_cn (p : Nat → Bool) (n : Nat) : smF (fun i => if p i then 1 else 0) n = (cnF p n : Int) := by
  induction n with
  | zero => rfl
  | succ n ih => simp only [smF, cnF]; rw [ih]; split <;> omega
theorem cnF_le (p : Nat → Bool) (n : Nat) : cnF p n ≤ n := by
  induction n with
  | zero => exact Nat.le_refl _
  | succ n ih => simp only [cnF]; split <;> omega
theorem cnF_mono {p q : Nat → Bool} {n : Nat} (h : ∀ i, i < n → p i = true → q i = true) : cnF p n ≤ cnF q n := by
  induction n with
  | zero => exact Nat.le_refl _
  | succ n ih =>
    simp only [cnF]
    have h1 := ih (fun i hi => h i (by omega))
    have h2 := h n (by omega)
    cases hp : p n
    · rw [if_neg (by decide)]; split <;> omega
    · rw [if_pos rfl, if_pos (h2 hp)]; omega
theorem cnF_lt {p q : Nat → Bool} {n : Nat} (h : ∀ i, i < n → p i = true → q i = true) {i : Nat} (hi : i < n) (hp : p i = false) (hq : q i = true) : cnF p n < cnF q n := by
  induction n with
  | zero => omega
  | succ n ih =>
    simp only [cnF]
    rcases Nat.lt_or_ge i n with g | g
    · have h1 := ih (fun j hj => h j (by omega)) g
      have h2 := h n (by omega)
      cases hp : p n
      · rw [if_neg (by decide)]; split <;> omega
      · rw [if_pos rfl, if_pos (h2 hp)]; omega
    · obtain rfl : i = n := by omega
      have h1 := cnF_mono (p := p) (q := q) (n := i) (fun j hj => h j (by omega))
      rw [hp, hq, if_neg (by decide), if_pos rfl]; omega
theorem cnF_ext {p q : Nat → Bool} {n : Nat} (h : ∀ i, i < n → p i = q i) : cnF p n = cnF q n := by
  have a := cnF_mono (p := p) (q := q) (n := n) (fun i hi hp => by rw [← h i hi]; exact hp)
  have b := cnF_mono (p := q) (q := p) (n := n) (fun i hi hp => by rw [h i hi]; exact hp)
  omega
/-- One more. -/
theorem cnF_set (p : Nat → Bool) (n : Nat) {k : Nat} (hk : k < n) (hp : p k = false) : cnF (fun i => decide (i = k) || p i) n = cnF p n + 1 := by
  induction n with
  | zero => omega
  | succ n ih =>
    simp only [cnF]
    rcases Nat.lt_or_ge k n with g | g
    · rw [ih g]
      have e : (decide (n = k) || p n) = p n := by rw [decide_eq_false (by omega), Bool.false_or]
      simp only [e]
      split <;> omega
    · obtain rfl : k = n := by omega
      simp only [hp]
      rw [cnF_ext (q := p) (fun i hi => by rw [decide_eq_false (by omega : ¬ i = k), Bool.false_or])]
      simp

section
variable (size W : Int) (w : Nat → Int) (n : Nat)
/-- The quotient and the remainder of a part. -/
def loP (i : Nat) : Int := size * w i / W
def reP (i : Nat) : Int := size * w i % W
/-- The first gets a unit ahead of the second. -/
def btP (i j : Nat) : Prop := reP size W w j < reP size W w i ∨ reP size W w j = reP size W w i ∧ i < j
theorem btP_asym {i j : Nat} (h : btP size W w i j) (k : btP size W w j i) : False := by unfold btP at h k; omega
theorem btP_total {i j : Nat} (h : i ≠ j) : btP size W w i j ∨ btP size W w j i := by unfold btP; omega
/-- What is left when each has its quotient. -/
def leP : Int := size - smF (loP size W w) n
/-- Who gets one more: as many as are left, and none of the others comes ahead of one of them. -/
structure Chs (C : Nat → Bool) : Prop where
  num : (cnF C n : Int) = leP size W w n
  dom : ∀ i j, i < n → j < n → C i = true → C j = false → btP size W w i j
theorem Chs.uniq {C D : Nat → Bool} (h : Chs size W w n C) (k : Chs size W w n D) : ∀ i, i < n → C i = D i := by
  have he : cnF C n = cnF D n := by have := h.num; have := k.num; omega
  have key : ∀ {C D : Nat → Bool}, Chs size W w n C → Chs size W w n D → cnF C n = cnF D n → ∀ i, i < n → C i = true → D i = false → False := by
    intro C D h k he i hi hc hd
    by_cases hx : ∃ j, j < n ∧ D j = true ∧ C j = false
    · obtain ⟨j, hj, hdj, hcj⟩ := hx
      exact btP_asym size W w (h.dom i j hi hj hc hcj) (k.dom j i hj hi hdj hd)
    · have := cnF_lt (p := D) (q := C) (n := n) (fun j hj hdj => by
        cases hcj : C j
        · exact absurd ⟨j, hj, hdj, hcj⟩ hx
        · rfl) hi hd hc
      omega
  intro i hi
  cases hc : C i <;> cases hd : D i
  · rfl
  · exact (key k h he.symm i hi hd hc).elim
  · exact (key h k he i hi hc hd).elim
  · rfl
variable {size W w n}
theorem re_bd (hW : 0 < W) (i : Nat) : 0 ≤ reP size W w i ∧ reP size W w i < W := ⟨Int.emod_nonneg _ (by omega), Int.emod_lt_of_pos _ hW⟩
theorem lo_re (i : Nat) : size * w i = W * loP size W w i + reP size W w i := (Int.mul_ediv_add_emod (size * w i) W).symm
theorem lo_nonneg (hW : 0 < W) (hs : 0 ≤ size) (hw : ∀ i, i < n → 0 ≤ w i) {i : Nat} (hi : i < n) : 0 ≤ loP size W w i := Int.ediv_nonneg (Int.mul_nonneg hs (hw i hi)) (by omega)
/-- The sum of the remainders is what is left, times the sum of the weights. -/
theorem re_sum (hsum : smF w n = W) : smF (reP size W w) n = W * leP size W w n := by
  have h1 : smF (fun i => size * w i) n = size * W := by rw [smF_mul, hsum]
  have h2 : smF (fun i => size * w i) n = W * smF (loP size W w) n + smF (reP size W w) n := by
    rw [← smF_mul, ← smF_add]
    exact smF_ext fun i _ => lo_re i
  unfold leP
  rw [Int.mul_sub, Int.mul_comm W size]
  omega
theorem le_bd (hW : 0 < W) (hsum : smF w n = W) : 0 ≤ leP size W w n ∧ (leP size W w n = 0 ∨ leP size W w n < cnF (fun i => decide (0 < reP size W w i)) n) := by
  have h := re_sum (size := size) hsum
  have h0 := smF_nonneg (f := reP size W w) (n := n) (fun i _ => (re_bd hW i).1)
  have hle : 0 ≤ leP size W w n := by
    rcases Int.lt_or_le (leP size W w n) 0 with g | g
    · have := Int.mul_lt_mul_of_pos_left g hW
      omega
    · exact g
  refine ⟨hle, ?_⟩
  have h2 : smF (reP size W w) n ≤ smF (fun i => (W - 1) * (if decide (0 < reP size W w i) = true then 1 else 0)) n := smF_le fun i _ => by
    have := re_bd (size := size) (w := w) hW i
    by_cases g : 0 < reP size W w i
    · rw [decide_eq_true g, if_pos rfl]; omega
    · rw [decide_eq_false g, if_neg (by decide)]; omega
  rw [smF_mul, smF_cn, h] at h2
  rcases Int.lt_or_le (leP size W w n) (cnF (fun i => decide (0 < reP size W w i)) n) with g | g
  · exact .inr g
  · left
    generalize (cnF (fun i => decide (0 < reP size W w i)) n : Int) = c at *
    rcases Int.lt_or_le 0 (leP size W w n) with k | k
    · have h3 : W * c ≤ W * leP size W w n := Int.mul_le_mul_of_nonneg_left g (by omega)
      have h4 : (W - 1) * c = W * c - c := by rw [Int.sub_mul, Int.one_mul]
      rcases Int.lt_or_le 0 c with k2 | k2
      · omega
      · have h5 : (W - 1) * c ≤ 0 := by
          have := Int.mul_le_mul_of_nonneg_left k2 (show 0 ≤ W - 1 by omega)
          omega
        have h6 : W * 1 ≤ W * leP size W w n := Int.mul_le_mul_of_nonneg_left (by omega) (by omega)
        omega
    · omega
/-- Whoever gets one more has a remainder. -/
theorem Chs.pos {C : Nat → Bool} (hW : 0 < W) (hsum : smF w n = W) (h : Chs size W w n C) {i : Nat} (hi : i < n) (hc : C i = true) : 0 < reP size W w i := by
  rcases Int.lt_or_le 0 (reP size W w i) with g | g
  · exact g
  · obtain ⟨b0, b1⟩ := le_bd (size := size) hW hsum
    have hall : ∀ j, j < n → decide (0 < reP size W w j) = true → C j = true := fun j hj hp => by
      cases hcj : C j
      · have := h.dom i j hi hj hc hcj
        have := of_decide_eq_true hp
        unfold btP at *
        omega
      · rfl
    have := cnF_lt (p := fun j => decide (0 < reP size W w j)) (q := C) hall hi (decide_eq_false (by omega)) hc
    have := h.num
    have h1 : 0 < cnF C n := by omega
    omega
/-- The parts. -/
def ptP (size W : Int) (w : Nat → Int) (C : Nat → Bool) (i : Nat) : Int := loP size W w i + (if C i then 1 else 0)
theorem pt_sum {C : Nat → Bool} (h : Chs size W w n C) : smF (ptP size W w C) n = size := by
  have e : smF (ptP size W w C) n = smF (loP size W w) n + (cnF C n : Int) := by rw [← smF_cn, ← smF_add]; rfl
  have := h.num
  unfold leP at this
  omega
theorem pt_nonneg {C : Nat → Bool} (hW : 0 < W) (hs : 0 ≤ size) (hw : ∀ i, i < n → 0 ≤ w i) {i : Nat} (hi : i < n) : 0 ≤ ptP size W w C i := by
  have := lo_nonneg hW hs hw hi
  unfold ptP
  split <;> omega
theorem pt_le {C : Nat → Bool} (hW : 0 < W) (hs : 0 ≤ size) (hw : ∀ i, i < n → 0 ≤ w i) (h : Chs size W w n C) {i : Nat} (hi : i < n) : ptP size W w C i ≤ size := by
  have := smF_mem (f := ptP size W w C) (n := n) (fun j hj => pt_nonneg hW hs hw hj) hi
  rw [pt_sum h] at this
  exact this
theorem pt_exact {C : Nat → Bool} (hW : 0 < W) (hsum : smF w n = W) (h : Chs size W w n C) {i : Nat} (hi : i < n) : (ptP size W w C i = loP size W w i ∨ ptP size W w C i = loP size W w i + 1) ∧ (ptP size W w C i = loP size W w i + 1 → reP size W w i ≠ 0) := by
  unfold ptP
  cases hc : C i
  · exact ⟨.inl (by simp), fun g => absurd g (by simp; omega)⟩
  · have := h.pos hW hsum hi hc
    exact ⟨.inr (by simp), fun _ e => by omega⟩
/-- Greater weights do not get smaller parts. -/
theorem pt_mono {C : Nat → Bool} (hW : 0 < W) (hs : 0 ≤ size) (h : Chs size W w n C) {i k : Nat} (hi : i < n) (hk : k < n) (hw : w k < w i) : ptP size W w C k ≤ ptP size W w C i := by
  have h1 : size * w k ≤ size * w i := Int.mul_le_mul_of_nonneg_left (by omega) hs
  have h2 : loP size W w k ≤ loP size W w i := Int.ediv_le_ediv hW h1
  unfold ptP
  rcases Int.lt_or_le (loP size W w k) (loP size W w i) with g | g
  · split <;> split <;> omega
  · have e : loP size W w k = loP size W w i := by omega
    cases hck : C k
    · rw [if_neg (by decide)]; split <;> omega
    · cases hci : C i
      · exfalso
        have hb := h.dom k i hk hi hck hci
        have r1 := lo_re (size := size) (W := W) (w := w) i
        have r2 := lo_re (size := size) (W := W) (w := w) k
        rw [e] at r2
        unfold btP at hb
        rcases Int.lt_or_le 0 size with s | s
        · have := Int.mul_lt_mul_of_pos_left hw s
          omega
        · obtain rfl : size = 0 := by omega
          have h3 := h.num
          have h4 : leP 0 W w n = 0 := by
            unfold leP
            have : smF (loP 0 W w) n = smF (fun _ => 0 * 0) n := smF_ext fun j _ => by unfold loP; simp
            rw [this, smF_mul]; simp
          have h5 := cnF_lt (p := fun _ => false) (q := C) (n := n) (fun _ _ g => by cases g) hk rfl hck
          omega
      · simp only [if_true]; omega
/-- A weight of 0 has no part. -/
theorem pt_zero {C : Nat → Bool} (hW : 0 < W) (hsum : smF w n = W) (h : Chs size W w n C) {i : Nat} (hi : i < n) (hw : w i = 0) : ptP size W w C i = 0 := by
  have hr : reP size W w i = 0 := by unfold reP; rw [hw]; simp
  have hl : loP size W w i = 0 := by unfold loP; rw [hw]; simp
  unfold ptP
  cases hc : C i
  · rw [if_neg (by decide), hl]; rfl
  · have := h.pos hW hsum hi hc
    omega
end
end Go.Proofs.Ytalnfbgaiegicaa
/- Layer 7, plain: who gets a unit more: by rounds, by a sorted order. -/
namespace Go.Proofs.Ytalnfbgaiegicaa
open Go

section
variable {size W : Int} {w : Nat → Int} {n : Nat}
/-- Some have been chosen, none of the others comes ahead of one of them. -/
def DomP (size W : Int) (w : Nat → Int) (n : Nat) (C : Nat → Bool) : Prop := ∀ i j, i < n → j < n → C i = true → C j = false → btP size W w i j
theorem DomP.none : DomP size W w n fun _ => false := fun _ _ _ _ h _ => by cases h
/-- The best of the others is chosen next. -/
theorem DomP.step {C : Nat → Bool} (h : DomP size W w n C) {b : Nat} (hb : b < n) (hbest : ∀ j, j < n → C j = false → j ≠ b → btP size W w b j) : DomP size W w n fun i => decide (i = b) || C i := by
  intro i j hi hj hci hcj
  have hcj : (decide (j = b) || C j) = false := hcj
  rw [Bool.or_eq_false_iff, decide_eq_false_iff_not] at hcj
  by_cases e : i = b
  · subst e; exact hbest j hj hcj.2 hcj.1
  · have hci : (decide (i = b) || C i) = true := hci
    rw [decide_eq_false e, Bool.false_or] at hci
    exact h i j hi hj hci hcj.2
theorem chs_of {C : Nat → Bool} (h : DomP size W w n C) (hn : (cnF C n : Int) = leP size W w n) : Chs size W w n C := ⟨hn, h⟩
/-- As long as not all that are left have been given, someone is left. -/
theorem cnF_some {C : Nat → Bool} (h : cnF C n < n) : ∃ i, i < n ∧ C i = false := by
  by_cases g : ∃ i, i < n ∧ C i = false
  · exact g
  · have : ∀ i, i < n → C i = true := fun i hi => by
      cases hc : C i
      · exact absurd ⟨i, hi, hc⟩ g
      · rfl
    have e := cnF_ext (p := C) (q := fun _ => true) (n := n) this
    have e2 : ∀ m, cnF (fun _ => true) m = m := by
      intro m
      induction m with
      | zero => rfl
      | succ m ih => simp only [cnF]; rw [ih]; rfl
    rw [e2] at e
    omega
theorem le_lt_n (hW : 0 < W) (hsum : smF w n = W) : leP size W w n < n ∨ n = 0 ∧ leP size W w n = 0 := by
  obtain ⟨b0, b1⟩ := le_bd (size := size) hW hsum
  have hle := cnF_le (fun i => decide (0 < reP size W w i)) n
  rcases b1 with h | h
  · rcases Nat.eq_zero_or_pos n with g | g
    · exact .inr ⟨g, h⟩
    · left; omega
  · left; omega
/-- How many of a list without repetitions. -/
theorem cnF_mem : ∀ (l : List Nat), l.Nodup → (∀ i ∈ l, i < n) → cnF (fun i => decide (i ∈ l)) n = l.length := by
  intro l
  induction l with
  | nil =>
    intro _ _
    have : ∀ m, cnF (fun i => decide (i ∈ ([] : List Nat))) m = 0 := by
      intro m
      induction m with
      | zero => rfl
      | succ m ih => simp only [cnF]; rw [ih]; simp
    exact this n
  | cons k r ih =>
    intro hd hl
    rw [List.nodup_cons] at hd
    have h1 := ih hd.2 (fun i hi => hl i (List.mem_cons_of_mem _ hi))
    have h2 := cnF_set (fun i => decide (i ∈ r)) n (hl k (by simp)) (decide_eq_false hd.1)
    rw [List.length_cons, ← h1, ← h2]
    exact cnF_ext fun i _ => by
      by_cases e : i = k
      · subst e; simp
      · simp [e]
/-- The first ones of a sorted order. -/
theorem chs_sorted {ord : List Nat} (hp : ord.Pairwise fun i j => btP size W w i j) (hd : ord.Nodup) (hm : ∀ i, i ∈ ord ↔ i < n) {k : Nat} (hk : (k : Int) = leP size W w n) (hkn : k ≤ n) : Chs size W w n fun i => decide (i ∈ ord.take k) := by
  have hl : ord.length = n := by
    have h1 := cnF_mem (n := n) ord hd (fun i hi => (hm i).1 hi)
    have h2 := cnF_ext (p := fun i => decide (i ∈ ord)) (q := fun _ => true) (n := n) (fun i hi => decide_eq_true ((hm i).2 hi))
    have e2 : ∀ m, cnF (fun _ => true) m = m := by
      intro m
      induction m with
      | zero => rfl
      | succ m ih => simp only [cnF]; rw [ih]; rfl
    rw [e2] at h2
    omega
  refine ⟨?_, fun i j hi hj hci hcj => ?_⟩
  · rw [cnF_mem (n := n) (ord.take k) (hd.sublist (List.take_sublist _ _)) (fun i hi => (hm i).1 (List.mem_of_mem_take hi)), List.length_take, Nat.min_eq_left (by omega)]
    exact hk
  · have hci := of_decide_eq_true hci
    have hcj := of_decide_eq_false hcj
    have hjd : j ∈ ord.drop k := by
      have : j ∈ ord.take k ++ ord.drop k := by rw [List.take_append_drop]; exact (hm j).2 hj
      rcases List.mem_append.1 this with g | g
      · exact absurd g hcj
      · exact g
    rw [← List.take_append_drop k ord, List.pairwise_append] at hp
    exact hp.2.2 i hci j hjd
end
/-- Sums of bounded numbers are bounded. -/
theorem smF_bd {f : Nat → Int} {n : Nat} {B : Int} (_hB : 0 ≤ B) (h : ∀ i, i < n → -B ≤ f i ∧ f i ≤ B) : -(B * n) ≤ smF f n ∧ smF f n ≤ B * n := by
  induction n with
  | zero => simp [smF]
  | succ n ih =>
    obtain ⟨a, b⟩ := ih (fun i hi => h i (by omega))
    obtain ⟨c, d⟩ := h n (by omega)
    simp only [smF]
    have e : B * ((n + 1 : Nat) : Int) = B * n + B := by rw [Int.natCast_add, Int.mul_add]; simp
    rw [e]
    omega
end Go.Proofs.Ytalnfbgaiegicaa
/- Layer 7, plain: the parts of a total with its sign: what MoneyShares asks of them. -/
namespace Go.Proofs.Ytalnfbgaiegicaa
open Go

/-- The size of a total; a part with the total's sign. -/
def sizI (t : Int) : Int := if t < 0 then -t else t
def sgP (t : Int) (x : Int) : Int := if t < 0 then -x else x
theorem sizI_max (t : Int) : max t (-t) = sizI t := by unfold sizI; split <;> omega
theorem sizI_nonneg (t : Int) : 0 ≤ sizI t := by unfold sizI; split <;> omega
theorem sgP_max {t x : Int} (h : 0 ≤ x) : max (sgP t x) (-(sgP t x)) = x := by unfold sgP; split <;> omega
theorem sgP_sign {t x : Int} (h : 0 ≤ x) (hx : sgP t x ≠ 0) : decide (sgP t x < 0) = decide (t < 0) := by
  unfold sgP at *
  split
  · next g => rw [if_pos g] at hx; rw [decide_eq_true g, decide_eq_true (by omega)]
  · next g => rw [if_neg g] at hx; rw [decide_eq_false g, decide_eq_false (by omega)]
theorem smF_sg (t : Int) (f : Nat → Int) (n : Nat) : smF (fun i => sgP t (f i)) n = sgP t (smF f n) := by
  unfold sgP
  by_cases h : t < 0
  · simp only [if_pos h]
    have := smF_mul (-1) f n
    have e : smF (fun i => -1 * f i) n = smF (fun i => -(f i)) n := smF_ext fun i _ => by omega
    omega
  · simp only [if_neg h]
section
variable {t W : Int} {w : Nat → Int} {n : Nat} {C : Nat → Bool}
/-- The parts, with the sign. -/
def shP (t W : Int) (w : Nat → Int) (C : Nat → Bool) (i : Nat) : Int := sgP t (ptP (sizI t) W w C i)
theorem shP_sum (h : Chs (sizI t) W w n C) : smF (shP t W w C) n = t := by
  have : smF (shP t W w C) n = sgP t (smF (ptP (sizI t) W w C) n) := smF_sg t _ n
  rw [this, pt_sum h]
  unfold sgP sizI
  split <;> omega
theorem shP_bd (hW : 0 < W) (hw : ∀ i, i < n → 0 ≤ w i) (h : Chs (sizI t) W w n C) {i : Nat} (hi : i < n) : 0 ≤ ptP (sizI t) W w C i ∧ ptP (sizI t) W w C i ≤ sizI t ∧ -(sizI t) ≤ shP t W w C i ∧ shP t W w C i ≤ sizI t := by
  have h0 := pt_nonneg (C := C) hW (sizI_nonneg t) hw hi
  have h1 := pt_le hW (sizI_nonneg t) hw h hi
  refine ⟨h0, h1, ?_, ?_⟩
  · unfold shP sgP; split <;> omega
  · unfold shP sgP; split <;> omega
/-- What is asked of one part. -/
theorem shP_one (hW : 0 < W) (hsum : smF w n = W) (hw : ∀ i, i < n → 0 ≤ w i) (h : Chs (sizI t) W w n C) {i : Nat} (hi : i < n) :
    max (shP t W w C i) (-(shP t W w C i)) = ptP (sizI t) W w C i ∧ (ptP (sizI t) W w C i = sizI t * w i / W ∨ ptP (sizI t) W w C i = sizI t * w i / W + 1) ∧ ¬ (ptP (sizI t) W w C i = sizI t * w i / W + 1 ∧ sizI t * w i % W = 0) ∧
    (shP t W w C i ≠ 0 → decide (shP t W w C i < 0) = decide (t < 0)) := by
  have h0 := (shP_bd hW hw h hi).1
  obtain ⟨h1, h2⟩ := pt_exact hW hsum h hi
  exact ⟨sgP_max h0, h1, fun ⟨a, b⟩ => h2 a b, sgP_sign h0⟩
/-- What is asked of two parts. -/
theorem shP_two (hW : 0 < W) (h : Chs (sizI t) W w n C) {i k : Nat} (hi : i < n) (hk : k < n) : ¬ (w k < w i ∧ ptP (sizI t) W w C i < ptP (sizI t) W w C k) := by
  rintro ⟨a, b⟩
  have := pt_mono hW (sizI_nonneg t) h hi hk a
  omega
/-- All numbers on the way fit. -/
theorem prod_fit {s x : Int} (s0 : 0 ≤ s) (s1 : s ≤ 1125899906842624) (x0 : 0 ≤ x) (x1 : x ≤ 4000) : 0 ≤ s * x ∧ s * x ≤ 4503599627370496000 := by
  refine ⟨Int.mul_nonneg s0 x0, ?_⟩
  have := Int.mul_le_mul s1 x1 x0 (by omega)
  omega
end
end Go.Proofs.Ytalnfbgaiegicaa
/- Layer 7, plain: a stable sort by blocks that are merged in place: what is sorted, what moves. -/
namespace Go.Proofs.Ytalnfbgaiegicaa
open Go Go.Sort

section
variable {α : Type} [Inhabited α]
/-- What stood between a and b stands there still, in some order; the rest is as it was. -/
def MvI (a b : Nat) (d d' : Array α) : Prop := d'.size = d.size ∧ (∀ i, i < a ∨ b ≤ i → d'[i]! = d[i]!) ∧ ∀ i, a ≤ i → i < b → ∃ j, a ≤ j ∧ j < b ∧ d'[i]! = d[j]!
theorem MvI.refl (a b : Nat) (d : Array α) : MvI a b d d := ⟨rfl, fun _ _ => rfl, fun i h1 h2 => ⟨i, h1, h2, rfl⟩⟩
theorem MvI.trans {a b : Nat} {d d' d2 : Array α} (h : MvI a b d d') (k : MvI a b d' d2) : MvI a b d d2 := by
  refine ⟨k.1.trans h.1, fun i hi => (k.2.1 i hi).trans (h.2.1 i hi), fun i h1 h2 => ?_⟩
  obtain ⟨j, j1, j2, e⟩ := k.2.2 i h1 h2
  obtain ⟨l, l1, l2, e2⟩ := h.2.2 j j1 j2
  exact ⟨l, l1, l2, e.trans e2⟩
theorem MvI.mono {a b a' b' : Nat} {d d' : Array α} (h : MvI a b d d') (ha : a' ≤ a) (hb : b ≤ b') : MvI a' b' d d' := by
  refine ⟨h.1, fun i hi => h.2.1 i (by omega), fun i h1 h2 => ?_⟩
  by_cases g : a ≤ i ∧ i < b
  · obtain ⟨j, j1, j2, e⟩ := h.2.2 i g.1 g.2
    exact ⟨j, by omega, by omega, e⟩
  · exact ⟨i, h1, h2, h.2.1 i (by omega)⟩
theorem MvI.all {a b : Nat} {d d' : Array α} (h : MvI a b d d') (p : α → Prop) (hp : ∀ i, a ≤ i → i < b → p d[i]!) : ∀ i, a ≤ i → i < b → p d'[i]! := fun i h1 h2 => by
  obtain ⟨j, j1, j2, e⟩ := h.2.2 i h1 h2
  rw [e]; exact hp j j1 j2
theorem MvI.swp {a b i j : Nat} {d : Array α} (hb : b ≤ d.size) (h1 : a ≤ i) (h2 : i < b) (h3 : a ≤ j) (h4 : j < b) : MvI a b d (swp d i j) := by
  refine ⟨size_swp d i j, fun k hk => swp_other d i j k (by omega) (by omega), fun k k1 k2 => ?_⟩
  by_cases e : k = j
  · subst e; exact ⟨i, h1, h2, swp_right d i k (by omega)⟩
  · by_cases e2 : k = i
    · subst e2; exact ⟨j, h3, h4, swp_left d k j (by omega) e⟩
    · exact ⟨k, k1, k2, swp_other d i j k e2 e⟩
variable (bt : α → α → Prop)
def SrI (a b : Nat) (d : Array α) : Prop := ∀ i j, a ≤ i → i < j → j < b → bt d[i]! d[j]!
variable {bt}
theorem SrI.congr {a b : Nat} {d d' : Array α} (h : SrI bt a b d) (e : ∀ i, a ≤ i → i < b → d'[i]! = d[i]!) : SrI bt a b d' := fun i j h1 h2 h3 => by
  rw [e i h1 (by omega), e j (by omega) h3]; exact h i j h1 h2 h3
theorem SrI.join {a m b : Nat} {d : Array α} (h : SrI bt a m d) (k : SrI bt m b d) (c : ∀ i j, a ≤ i → i < m → m ≤ j → j < b → bt d[i]! d[j]!) : SrI bt a b d := fun i j h1 h2 h3 => by
  rcases Nat.lt_or_ge j m with g | g
  · exact h i j h1 h2 g
  · rcases Nat.lt_or_ge i m with g2 | g2
    · exact c i j h1 g2 g h3
    · exact k i j g2 h2 h3
variable (lt : α → α → Bool) (pos : α → Nat)
/-- The order is told by lt where the first one comes from behind the second one. -/
structure OrdS (bt : α → α → Prop) (lt : α → α → Bool) (pos : α → Nat) : Prop where
  tr : ∀ x y z, bt x y → bt y z → bt x z
  yes : ∀ x y, pos y < pos x → lt x y = true → bt x y
  no : ∀ x y, pos y < pos x → lt x y = false → bt y x
variable {lt pos}
/-- While an element is moved down. -/
structure InsS (bt : α → α → Prop) (pos : α → Nat) (a j i : Nat) (d : Array α) : Prop where
  off : ∀ p q, a ≤ p → p < q → q ≤ i → p ≠ j → q ≠ j → bt d[p]! d[q]!
  up : ∀ q, j < q → q ≤ i → bt d[j]! d[q]!
  lo : ∀ p, a ≤ p → p < j → pos d[p]! < pos d[j]!
theorem InsS.stop (H : OrdS bt lt pos) {a j i : Nat} {d : Array α} (h : InsS bt pos a j i d) (haj : a ≤ j) (hji : j ≤ i) (hs : j ≤ a ∨ lt d[j]! d[j - 1]! = false) : SrI bt a (i + 1) d := by
  intro p q h1 h2 h3
  by_cases e : p = j
  · subst e; exact h.up q h2 (by omega)
  · by_cases e2 : q = j
    · subst e2
      have hb : bt d[q - 1]! d[q]! := by
        rcases hs with hs | hs
        · omega
        · exact H.no _ _ (h.lo (q - 1) (by omega) (by omega)) hs
      by_cases e3 : p = q - 1
      · rw [e3]; exact hb
      · exact H.tr _ _ _ (h.off p (q - 1) h1 (by omega) (by omega) e (by omega)) hb
    · exact h.off p q h1 h2 (by omega) e e2
theorem InsS.step (H : OrdS bt lt pos) {a j i : Nat} {d : Array α} (h : InsS bt pos a (j + 1) i d) (haj : a ≤ j) (hji : j + 1 ≤ i) (hi : i < d.size) (hl : lt d[j + 1]! d[j]! = true) : InsS bt pos a j i (swp d (j + 1) j) := by
  have el : (swp d (j + 1) j)[j + 1]! = d[j]! := swp_left d _ _ (by omega) (by omega)
  have er : (swp d (j + 1) j)[j]! = d[j + 1]! := swp_right d _ _ (by omega)
  have hb : bt d[j + 1]! d[j]! := H.yes _ _ (h.lo j haj (by omega)) hl
  refine ⟨fun p q h1 h2 h3 h4 h5 => ?_, fun q h1 h2 => ?_, fun p h1 h2 => ?_⟩
  · by_cases e : p = j + 1
    · subst e
      rw [el, swp_other d _ _ q (by omega) h5]
      exact h.off j q haj (by omega) h3 (by omega) (by omega)
    · rw [swp_other d _ _ p e h4]
      by_cases e2 : q = j + 1
      · subst e2
        rw [el]
        exact h.off p j h1 (by omega) (by omega) (by omega) (by omega)
      · rw [swp_other d _ _ q e2 h5]
        exact h.off p q h1 h2 h3 e e2
  · rw [er]
    by_cases e : q = j + 1
    · subst e; rw [el]; exact hb
    · rw [swp_other d _ _ q e (by omega)]
      exact h.up q (by omega) h2
  · rw [er, swp_other d _ _ p (by omega) (by omega)]
    exact h.lo p h1 (by omega)
theorem insInner_st (H : OrdS bt lt pos) {a i : Nat} : ∀ (j : Nat) (d : Array α), a ≤ j → j ≤ i → i < d.size → InsS bt pos a j i d → SrI bt a (i + 1) (insInner lt a j d) ∧ MvI a (i + 1) d (insInner lt a j d) := by
  intro j
  induction j with
  | zero => intro d h1 h2 _ h; exact ⟨h.stop H h1 h2 (.inl (by omega)), MvI.refl _ _ _⟩
  | succ j ih =>
    intro d h1 h2 h3 h
    unfold insInner
    split
    · next g =>
      rw [Bool.and_eq_true, decide_eq_true_eq] at g
      have hk := ih (swp d (j + 1) j) (by omega) (by omega) (by rw [size_swp]; exact h3) (h.step H (by omega) h2 h3 g.2)
      exact ⟨hk.1, (MvI.swp (by omega) (by omega) (by omega) (by omega) (by omega)).trans hk.2⟩
    · next g =>
      rw [Bool.and_eq_true, decide_eq_true_eq] at g
      refine ⟨h.stop H h1 h2 ?_, MvI.refl _ _ _⟩
      rcases Nat.lt_or_ge a (j + 1) with q | q
      · right
        cases hv : lt d[j + 1]! d[j + 1 - 1]!
        · rfl
        · exact absurd ⟨q, hv⟩ g
      · exact .inl q
theorem insOuter_st (H : OrdS bt lt pos) {a b : Nat} (d0 : Array α) (hb : b ≤ d0.size) (hinc : ∀ i j, a ≤ i → i < j → j < b → pos d0[i]! < pos d0[j]!) : ∀ (k i : Nat) (d : Array α), b - i = k → a < i → i ≤ b → MvI a i d0 d → SrI bt a i d → SrI bt a b (insOuter lt a b i d) ∧ MvI a b d0 (insOuter lt a b i d) := by
  intro k
  induction k with
  | zero =>
    intro i d hk ha hi hm hs
    obtain rfl : i = b := by omega
    unfold insOuter
    rw [if_neg (by omega)]
    exact ⟨hs, hm⟩
  | succ k ih =>
    intro i d hk ha hi hm hs
    unfold insOuter
    rw [if_pos (by omega)]
    have hI : InsS bt pos a i i d := by
      refine ⟨fun p q h1 h2 h3 h4 h5 => hs p q h1 h2 (by omega), fun q h1 h2 => by omega, fun p h1 h2 => ?_⟩
      rw [hm.2.1 i (by omega)]
      exact hm.all (fun x => pos x < pos d0[i]!) (fun j h3 h4 => hinc j i h3 h4 (by omega)) p h1 h2
    obtain ⟨k1, k2⟩ := insInner_st H i d (by omega) (Nat.le_refl _) (by rw [hm.1]; omega) hI
    exact ih (i + 1) _ (by omega) (by omega) (by omega) ((hm.mono (Nat.le_refl _) (by omega)).trans k2) k1
theorem insertion_st (H : OrdS bt lt pos) {a b : Nat} (d : Array α) (hab : a ≤ b) (hb : b ≤ d.size) (hinc : ∀ i j, a ≤ i → i < j → j < b → pos d[i]! < pos d[j]!) : SrI bt a b (insertionSort lt d a b) ∧ MvI a b d (insertionSort lt d a b) := by
  unfold insertionSort
  rcases Nat.eq_or_lt_of_le hab with e | e
  · subst e
    unfold insOuter
    rw [if_neg (by omega)]
    exact ⟨fun i j h1 h2 h3 => by omega, MvI.refl _ _ _⟩
  · exact insOuter_st H d hb hinc (b - (a + 1)) (a + 1) d rfl (by omega) (by omega) (MvI.refl _ _ _) (fun i j h1 h2 h3 => by omega)
/-- Two neighbouring parts exchanged. -/
def rotF (f : Nat → α) (a m b x : Nat) : α := if x < a ∨ b ≤ x then f x else if x < a + (b - m) then f (m + (x - a)) else f (x - (b - m))
/-- Two parts of the same length exchanged. -/
def xchF (f : Nat → α) (a b n x : Nat) : α := if a ≤ x ∧ x < a + n then f (b + (x - a)) else if b ≤ x ∧ x < b + n then f (a + (x - b)) else f x
omit [Inhabited α] in
theorem rot_left (f : Nat → α) {a m b : Nat} (h1 : a ≤ m) (h2 : m ≤ b) (h : b - m ≤ m - a) (x : Nat) : rotF (xchF f a m (b - m)) (a + (b - m)) m b x = rotF f a m b x := by
  have key : ∀ u v, u = v → f u = f v := fun _ _ h => congrArg f h
  unfold rotF xchF
  (repeat' split) <;> first | omega | (apply key; omega)
omit [Inhabited α] in
theorem rot_right (f : Nat → α) {a m b : Nat} (h1 : a ≤ m) (h2 : m ≤ b) (h : m - a ≤ b - m) (x : Nat) : rotF (xchF f a (b - (m - a)) (m - a)) a m (b - (m - a)) x = rotF f a m b x := by
  have key : ∀ u v, u = v → f u = f v := fun _ _ h => congrArg f h
  unfold rotF xchF
  (repeat' split) <;> first | omega | (apply key; omega)
omit [Inhabited α] in
theorem rot_same (f : Nat → α) {a m b : Nat} (h1 : a ≤ m) (h2 : m ≤ b) (h : m - a = b - m) (x : Nat) : xchF f a m (m - a) x = rotF f a m b x := by
  have key : ∀ u v, u = v → f u = f v := fun _ _ h => congrArg f h
  unfold rotF xchF
  (repeat' split) <;> first | omega | (apply key; omega)
omit [Inhabited α] in
theorem rot_none (f : Nat → α) {a m b : Nat} (h1 : a ≤ m) (h2 : m ≤ b) (h : a = m ∨ m = b) (x : Nat) : f x = rotF f a m b x := by
  have key : ∀ u v, u = v → f u = f v := fun _ _ h => congrArg f h
  unfold rotF
  (repeat' split) <;> first | rfl | omega | (apply key; omega)
theorem rot_mv {a m b : Nat} {d d' : Array α} (h1 : a ≤ m) (h2 : m ≤ b) (hs : d'.size = d.size) (h : ∀ x, d'[x]! = rotF (fun i => d[i]!) a m b x) : MvI a b d d' := by
  refine ⟨hs, fun i hi => ?_, fun i h3 h4 => ?_⟩
  · rw [h]; unfold rotF; rw [if_pos (by omega)]
  · rw [h]; unfold rotF; rw [if_neg (by omega)]
    split
    · exact ⟨_, by omega, by omega, rfl⟩
    · exact ⟨_, by omega, by omega, rfl⟩
/-- What is to be merged. -/
structure MrgI (bt : α → α → Prop) (pos : α → Nat) (a m b : Nat) (d : Array α) : Prop where
  le : a ≤ m ∧ m ≤ b ∧ b ≤ d.size
  l : SrI bt a m d
  r : SrI bt m b d
  c : ∀ i j, a ≤ i → i < m → m ≤ j → j < b → pos d[i]! < pos d[j]!
section
variable {a m b st en : Nat} {d d' : Array α}
theorem rot_vals (hst : a ≤ st ∧ st ≤ m) (hen : m ≤ en ∧ en ≤ b) (h : ∀ x, d'[x]! = rotF (fun i => d[i]!) st m en x) :
    (∀ x, x < st → d'[x]! = d[x]!) ∧ (∀ x, st ≤ x → x < st + (en - m) → d'[x]! = d[m + (x - st)]!) ∧ (∀ x, st + (en - m) ≤ x → x < en → d'[x]! = d[x - (en - m)]!) ∧ (∀ x, en ≤ x → d'[x]! = d[x]!) := by
  refine ⟨fun x h1 => ?_, fun x h1 h2 => ?_, fun x h1 h2 => ?_, fun x h1 => ?_⟩ <;> rw [h] <;> unfold rotF
  · rw [if_pos (by omega)]
  · rw [if_neg (by omega), if_pos (by omega)]
  · rw [if_neg (by omega), if_neg (by omega)]
  · rw [if_pos (by omega)]
/-- The halves that are left to be merged, and that the first comes ahead of the second. -/
theorem MrgI.halves (M : MrgI bt pos a m b d) (hst : a ≤ st ∧ st ≤ m) (hen : m ≤ en ∧ en ≤ b) (hs : d'.size = d.size) (h : ∀ x, d'[x]! = rotF (fun i => d[i]!) st m en x)
    (hA : ∀ i j, a ≤ i → i < st → en ≤ j → j < b → bt d[i]! d[j]!) (hB : ∀ i j, st ≤ i → i < m → m ≤ j → j < en → bt d[j]! d[i]!) :
    MrgI bt pos a st (st + (en - m)) d' ∧ MrgI bt pos (st + (en - m)) en b d' ∧ ∀ i j, a ≤ i → i < st + (en - m) → st + (en - m) ≤ j → j < b → bt d'[i]! d'[j]! := by
  obtain ⟨v1, v2, v3, v4⟩ := rot_vals hst hen h
  have hle := M.le
  refine ⟨⟨⟨by omega, by omega, by omega⟩, ?_, ?_, ?_⟩, ⟨⟨by omega, by omega, by omega⟩, ?_, ?_, ?_⟩, ?_⟩
  · intro i j h1 h2 h3; rw [v1 i (by omega), v1 j (by omega)]; exact M.l i j h1 h2 (by omega)
  · intro i j h1 h2 h3; rw [v2 i (by omega) (by omega), v2 j (by omega) (by omega)]; exact M.r _ _ (by omega) (by omega) (by omega)
  · intro i j h1 h2 h3 h4; rw [v1 i (by omega), v2 j (by omega) (by omega)]; exact M.c _ _ (by omega) (by omega) (by omega) (by omega)
  · intro i j h1 h2 h3; rw [v3 i (by omega) (by omega), v3 j (by omega) (by omega)]; exact M.l _ _ (by omega) (by omega) (by omega)
  · intro i j h1 h2 h3; rw [v4 i (by omega), v4 j (by omega)]; exact M.r i j (by omega) h2 h3
  · intro i j h1 h2 h3 h4; rw [v3 i (by omega) (by omega), v4 j (by omega)]; exact M.c _ _ (by omega) (by omega) (by omega) (by omega)
  · intro i j h1 h2 h3 h4
    rcases Nat.lt_or_ge i st with g | g <;> rcases Nat.lt_or_ge j en with k | k
    · rw [v1 i g, v3 j h3 k]; exact M.l _ _ (by omega) (by omega) (by omega)
    · rw [v1 i g, v4 j k]; exact hA i j h1 g k h4
    · rw [v2 i g h2, v3 j h3 k]; exact hB _ _ (by omega) (by omega) (by omega) (by omega)
    · rw [v2 i g h2, v4 j k]; exact M.r _ _ (by omega) (by omega) (by omega)
/-- Where nothing is left to be merged. -/
theorem MrgI.sorted (M : MrgI bt pos a m b d) (h : a = m ∨ m = b) : SrI bt a b d := by
  have hle := M.le
  rcases h with rfl | rfl
  · exact M.r
  · exact M.l
/-- Behind the halves. -/
theorem sorted_halves {d2 d3 : Array α} {md : Nat} (hx : ∀ i j, a ≤ i → i < md → md ≤ j → j < b → bt d'[i]! d'[j]!) (_hle : a ≤ md ∧ md ≤ b) (m2 : MvI a md d' d2) (s2 : SrI bt a md d2) (m3 : MvI md b d2 d3) (s3 : SrI bt md b d3) : SrI bt a b d3 := by
  refine (s2.congr fun i h1 h2 => m3.2.1 i (by omega)).join s3 fun i j h1 h2 h3 h4 => ?_
  rw [m3.2.1 i (by omega)]
  obtain ⟨j', j1, j2, e⟩ := m3.2.2 j h3 h4
  rw [e, m2.2.1 j' (by omega)]
  exact m2.all (fun x => bt x d'[j']!) (fun k k1 k2 => hx k j' k1 k2 j1 j2) i h1 h2
/-- What the search for the place has found. -/
theorem MrgI.found (H : OrdS bt lt pos) (M : MrgI bt pos a m b d) {n : Nat} (hen : st + en = n) (hst : a ≤ st ∧ st ≤ m) (hen2 : m ≤ en ∧ en ≤ b)
    (h1 : a < st → en < b → lt d[n - 1 - (st - 1)]! d[st - 1]! = false) (h2 : st < m → m < en → lt d[n - 1 - st]! d[st]! = true) :
    (∀ i j, a ≤ i → i < st → en ≤ j → j < b → bt d[i]! d[j]!) ∧ (∀ i j, st ≤ i → i < m → m ≤ j → j < en → bt d[j]! d[i]!) := by
  constructor
  · intro i j i1 i2 j1 j2
    have := h1 (by omega) (by omega)
    rw [show n - 1 - (st - 1) = en by omega] at this
    have hb : bt d[st - 1]! d[en]! := H.no _ _ (M.c _ _ (by omega) (by omega) (by omega) (by omega)) this
    have hb2 : bt d[i]! d[en]! := by
      by_cases e : i = st - 1
      · rw [e]; exact hb
      · exact H.tr _ _ _ (M.l i (st - 1) i1 (by omega) (by omega)) hb
    by_cases e : j = en
    · rw [e]; exact hb2
    · exact H.tr _ _ _ hb2 (M.r en j (by omega) (by omega) j2)
  · intro i j i1 i2 j1 j2
    have := h2 (by omega) (by omega)
    rw [show n - 1 - st = en - 1 by omega] at this
    have hb : bt d[en - 1]! d[st]! := H.yes _ _ (M.c _ _ (by omega) (by omega) (by omega) (by omega)) this
    have hb2 : bt d[en - 1]! d[i]! := by
      by_cases e : i = st
      · rw [e]; exact hb
      · exact H.tr _ _ _ hb (M.l st i (by omega) (by omega) i2)
    by_cases e : j = en - 1
    · rw [e]; exact hb2
    · exact H.tr _ _ _ (M.r j (en - 1) j1 (by omega) (by omega)) hb2
/-- One element merged into those behind it: its place is en - 1. -/
theorem MrgI.one_left (H : OrdS bt lt pos) (M : MrgI bt pos a m b d) (hm : m = a + 1) (hen : m ≤ en ∧ en ≤ b) (_hs : d'.size = d.size) (h : ∀ x, d'[x]! = rotF (fun i => d[i]!) a m en x)
    (h1 : m < en → lt d[en - 1]! d[a]! = true) (h2 : en < b → lt d[en]! d[a]! = false) : SrI bt a b d' := by
  obtain ⟨v1, v2, v3, v4⟩ := rot_vals (a := a) (b := b) ⟨Nat.le_refl _, by omega⟩ hen h
  have hle := M.le
  have hup : ∀ j, en ≤ j → j < b → bt d[a]! d[j]! := fun j j1 j2 => by
    have hb : bt d[a]! d[en]! := H.no _ _ (M.c _ _ (by omega) (by omega) (by omega) (by omega)) (h2 (by omega))
    by_cases e : j = en
    · rw [e]; exact hb
    · exact H.tr _ _ _ hb (M.r en j (by omega) (by omega) j2)
  have hlo : ∀ j, m ≤ j → j < en → bt d[j]! d[a]! := fun j j1 j2 => by
    have hb : bt d[en - 1]! d[a]! := H.yes _ _ (M.c _ _ (by omega) (by omega) (by omega) (by omega)) (h1 (by omega))
    by_cases e : j = en - 1
    · rw [e]; exact hb
    · exact H.tr _ _ _ (M.r j (en - 1) j1 (by omega) (by omega)) hb
  have hval : d'[en - 1]! = d[a]! := by rw [v3 (en - 1) (by omega) (by omega)]; congr 1; omega
  intro i j i1 i2 j2
  rcases Nat.lt_or_ge j (en - 1) with g | g
  · rw [v2 i (by omega) (by omega), v2 j (by omega) (by omega)]; exact M.r _ _ (by omega) (by omega) (by omega)
  · rcases Nat.lt_or_ge i (en - 1) with k | k
    · rw [v2 i (by omega) (by omega)]
      by_cases e : j = en - 1
      · rw [e, hval]; exact hlo _ (by omega) (by omega)
      · rw [v4 j (by omega)]; exact M.r _ _ (by omega) (by omega) (by omega)
    · rw [v4 j (by omega)]
      by_cases e : i = en - 1
      · rw [e, hval]; exact hup j (by omega) j2
      · rw [v4 i (by omega)]; exact M.r _ _ (by omega) (by omega) (by omega)
/-- One element merged into those ahead of it: its place is st. -/
theorem MrgI.one_right (H : OrdS bt lt pos) (M : MrgI bt pos a m b d) (hm : b = m + 1) (hst : a ≤ st ∧ st ≤ m) (_hs : d'.size = d.size) (h : ∀ x, d'[x]! = rotF (fun i => d[i]!) st m b x)
    (h1 : a < st → lt d[m]! d[st - 1]! = false) (h2 : st < m → lt d[m]! d[st]! = true) : SrI bt a b d' := by
  obtain ⟨v1, v2, v3, v4⟩ := rot_vals (a := a) (b := b) hst ⟨by omega, Nat.le_refl _⟩ h
  have hle := M.le
  have hup : ∀ i, st ≤ i → i < m → bt d[m]! d[i]! := fun i j1 j2 => by
    have hb : bt d[m]! d[st]! := H.yes _ _ (M.c _ _ (by omega) (by omega) (by omega) (by omega)) (h2 (by omega))
    by_cases e : i = st
    · rw [e]; exact hb
    · exact H.tr _ _ _ hb (M.l st i (by omega) (by omega) j2)
  have hlo : ∀ i, a ≤ i → i < st → bt d[i]! d[m]! := fun i j1 j2 => by
    have hb : bt d[st - 1]! d[m]! := H.no _ _ (M.c _ _ (by omega) (by omega) (by omega) (by omega)) (h1 (by omega))
    by_cases e : i = st - 1
    · rw [e]; exact hb
    · exact H.tr _ _ _ (M.l i (st - 1) j1 (by omega) (by omega)) hb
  have hval : d'[st]! = d[m]! := by rw [v2 st (by omega) (by omega)]; congr 1; omega
  intro i j i1 i2 j2
  rcases Nat.lt_or_ge j st with g | g
  · rw [v1 i (by omega), v1 j (by omega)]; exact M.l _ _ (by omega) (by omega) (by omega)
  · rcases Nat.lt_or_ge i st with k | k
    · rw [v1 i k]
      by_cases e : j = st
      · rw [e, hval]; exact hlo _ i1 k
      · rw [v3 j (by omega) (by omega)]; exact M.l _ _ (by omega) (by omega) (by omega)
    · rw [v3 j (by omega) (by omega)]
      by_cases e : i = st
      · rw [e, hval]; exact hup _ (by omega) (by omega)
      · rw [v3 i (by omega) (by omega)]; exact M.l _ _ (by omega) (by omega) (by omega)
end
/-- A part that holds what came from there, sorted. -/
def SgI (bt : α → α → Prop) (pos : α → Nat) (a b : Nat) (d : Array α) : Prop := SrI bt a b d ∧ ∀ i, a ≤ i → i < b → a ≤ pos d[i]! ∧ pos d[i]! < b
theorem SgI.congr {a b : Nat} {d d' : Array α} (h : SgI bt pos a b d) (e : ∀ i, a ≤ i → i < b → d'[i]! = d[i]!) : SgI bt pos a b d' := ⟨h.1.congr e, fun i h1 h2 => by rw [e i h1 h2]; exact h.2 i h1 h2⟩
theorem SgI.merge {a m b : Nat} {d : Array α} (h : SgI bt pos a m d) (k : SgI bt pos m b d) (h1 : a ≤ m) (h2 : m ≤ b) (hb : b ≤ d.size) : MrgI bt pos a m b d := ⟨⟨h1, h2, hb⟩, h.1, k.1, fun i j i1 i2 j1 j2 => by
  have := h.2 i i1 i2
  have := k.2 j j1 j2
  omega⟩
theorem SgI.merged {a m b : Nat} {d d' : Array α} (h : SgI bt pos a m d) (k : SgI bt pos m b d) (h1 : a ≤ m) (h2 : m ≤ b) (hm : MvI a b d d') (hs : SrI bt a b d') : SgI bt pos a b d' := by
  refine ⟨hs, fun i i1 i2 => ?_⟩
  refine hm.all (fun x => a ≤ pos x ∧ pos x < b) (fun j j1 j2 => ?_) i i1 i2
  rcases Nat.lt_or_ge j m with g | g
  · have := h.2 j j1 g; omega
  · have := k.2 j g j2; omega
end
end Go.Proofs.Ytalnfbgaiegicaa

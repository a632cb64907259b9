/- Joined: IntMath, IntNum, IntW. -/
import Derived.Lib.ItoaNum
import Derived.Lib.Strings
import Derived.WalkKit
import Derived.WalkSpells
import Derived.Lib.Hide
import Derived.Maps.AppendAt
import Derived.Lib.AppendIntMem
import Derived.Laws.IdiomStrings
/- Plain mathematics for layer 1: texts of integers as lists of bytes, no program. -/
namespace Go.Proofs.YtalejbabhjlehaaGreatDoor
open Go
def dgB (c : UInt8) : Bool := 48 ≤ c && c ≤ 57
def bod (l : List UInt8) : List UInt8 := Lib.trimPrefix l [45]
def szB (l : List UInt8) : Bool := match l with
  | [] => false
  | c :: _ => 49 ≤ c && c ≤ 57
def odB (l : List UInt8) : Bool := l.all dgB
def chk (l : List UInt8) : Int :=
  if l = [48] then 0 else if szB (bod l) && odB (bod l) then (if 1000 < (bod l).length then 14 else 0) else 12
theorem dgB_iff (c : UInt8) : dgB c = true ↔ 48 ≤ (c.toNat : Int) ∧ (c.toNat : Int) ≤ 57 := by
  unfold dgB; simp [UInt8.le_iff_toNat_le]; omega
theorem bod_length (l : List UInt8) : (bod l).length ≤ l.length := by
  unfold bod Lib.trimPrefix; split <;> simp
theorem getElem_toList (s : ByteArray) (k : Nat) (h : k < s.size) : s.data.toList[k]? = some s[k] := by
  rw [List.getElem?_eq_getElem (by simpa using h)]; rfl
theorem odB_false (s : ByteArray) (k : Nat) (h : k < s.size) (hc : ¬ (48 ≤ (s[k].toNat : Int) ∧ (s[k].toNat : Int) ≤ 57)) : odB s.data.toList = false := by
  unfold odB
  rw [Bool.eq_false_iff]
  intro ha
  have := List.all_eq_true.1 ha s[k] (List.mem_of_getElem? (getElem_toList s k h))
  exact hc ((dgB_iff _).1 this)
theorem odB_succ (s : ByteArray) (k : Nat) (h : k < s.size) (ha : odB (s.data.toList.take k) = true) (hc : 48 ≤ (s[k].toNat : Int) ∧ (s[k].toNat : Int) ≤ 57) : odB (s.data.toList.take (k + 1)) = true := by
  unfold odB at *
  rw [List.take_add_one, getElem_toList s k h, List.all_append, ha]
  simpa using (dgB_iff _).2 hc
theorem odB_all (s : ByteArray) (ha : odB (s.data.toList.take s.size) = true) : odB s.data.toList = true := by
  rwa [List.take_of_length_le (by simp)] at ha
theorem szB_nil (s : ByteArray) (h : s.size = 0) : szB s.data.toList = false := by
  have : s.data.toList = [] := List.eq_nil_of_length_eq_zero (by simpa using h)
  rw [this]; rfl
theorem szB_cons (s : ByteArray) (h : 0 < s.size) : szB s.data.toList = (decide ((49 : Int) ≤ (s[0].toNat : Int)) && decide ((s[0].toNat : Int) ≤ (57 : Int))) := by
  have h0 := getElem_toList s 0 h
  match hl : s.data.toList with
  | [] => rw [hl] at h0; simp at h0
  | c :: r =>
    rw [hl] at h0
    obtain rfl : c = s[0] := by simpa using h0
    unfold szB
    have e1 : ((49 : UInt8) ≤ s[0]) ↔ ((49 : Int) ≤ (s[0].toNat : Int)) := by rw [UInt8.le_iff_toNat_le]; simp; omega
    have e2 : (s[0] ≤ (57 : UInt8)) ↔ ((s[0].toNat : Int) ≤ (57 : Int)) := by rw [UInt8.le_iff_toNat_le]; simp; omega
    show (decide ((49 : UInt8) ≤ s[0]) && decide (s[0] ≤ (57 : UInt8))) = _
    rw [decide_eq_decide.2 e1, decide_eq_decide.2 e2]
theorem chk_cases (l : List UInt8) : chk l = 0 ∨ chk l = 12 ∨ chk l = 14 := by
  unfold chk
  split
  · exact .inl rfl
  · split
    · split
      · exact .inr (.inr rfl)
      · exact .inl rfl
    · exact .inr (.inl rfl)
def ngB (l : List UInt8) : Bool := l.head? == some 45
theorem bod_neg (b : List UInt8) : bod (45 :: b) = b := by simp [bod, Lib.trimPrefix, Lib.hasPrefix]
theorem bod_pos (l : List UInt8) (h : ngB l = false) : bod l = l := by
  match l with
  | [] => rfl
  | c :: r =>
    have hc : ¬ (45 = c) := fun e => by simp [ngB, ← e] at h
    simp [bod, Lib.trimPrefix, Lib.hasPrefix, List.isPrefixOf, hc]
def dv (c : UInt8) : Nat := c.toNat - 48
def dgs (b : List UInt8) : List Nat := b.reverse.map dv
theorem dgs_length (b : List UInt8) : (dgs b).length = b.length := by simp [dgs]
end Go.Proofs.YtalejbabhjlehaaGreatDoor
/- Plain mathematics for layer 1: numbers out of lists of digits; canonical texts are the decimal numerals. No program. -/
namespace Go.Proofs.YtalejbabhjlehaaGreatDoor
open Go
def vl (B : Nat) : List Nat → Nat
  | [] => 0
  | d :: r => d + B * vl B r
theorem vl_append (B : Nat) (xs ys : List Nat) : vl B (xs ++ ys) = vl B xs + B ^ xs.length * vl B ys := by
  induction xs with
  | nil => simp [vl]
  | cons d r ih =>
    simp only [List.cons_append, vl, ih, List.length_cons, Nat.pow_succ]
    grind
theorem vl_snoc (B : Nat) (xs : List Nat) (d : Nat) : vl B (xs ++ [d]) = vl B xs + B ^ xs.length * d := by
  rw [vl_append]; simp [vl]
theorem vl_lt (B : Nat) (xs : List Nat) (h : ∀ d ∈ xs, d < B) : vl B xs < B ^ xs.length := by
  induction xs with
  | nil => simp [vl]
  | cons d r ih =>
    have h1 := h d (by simp)
    have h2 := ih fun e he => h e (by simp [he])
    simp only [vl, List.length_cons, Nat.pow_succ]
    have h3 : B * (vl B r + 1) ≤ B * B ^ r.length := Nat.mul_le_mul_left B h2
    have h4 : B ^ r.length * B = B * B ^ r.length := Nat.mul_comm _ _
    rw [Nat.mul_add] at h3
    omega
theorem vl_take_succ (B : Nat) (xs : List Nat) (k : Nat) : vl B (xs.take (k + 1)) = vl B (xs.take k) + B ^ k * xs.getD k 0 := by
  rw [List.take_add_one]
  by_cases h : k < xs.length
  · rw [List.getElem?_eq_getElem h]
    simp only [Option.toList_some]
    rw [vl_snoc, List.length_take, Nat.min_eq_left (by omega)]
    simp [h]
  · rw [List.getElem?_eq_none (by omega)]
    simp [List.getD, List.getElem?_eq_none (Nat.le_of_not_lt h)]
theorem vl_take_all (B : Nat) (xs : List Nat) (k : Nat) (h : xs.length ≤ k) : vl B (xs.take k) = vl B xs := by
  rw [List.take_of_length_le h]
theorem getD_lt (B : Nat) (xs : List Nat) (h : ∀ d ∈ xs, d < B) (hB : 0 < B) (k : Nat) : xs.getD k 0 < B := by
  unfold List.getD
  cases hk : xs[k]? with
  | none => simpa using hB
  | some d => exact h d (List.mem_of_getElem? hk)
theorem take_lt (B : Nat) (xs : List Nat) (h : ∀ d ∈ xs, d < B) (k : Nat) (hB : 0 < B) : vl B (xs.take k) < B ^ k := by
  have h1 := vl_lt B (xs.take k) fun d hd => h d (List.mem_of_mem_take hd)
  have h2 : (xs.take k).length ≤ k := List.length_take_le _ _
  exact Nat.lt_of_lt_of_le h1 (Nat.pow_le_pow_right hB h2)
theorem dv_lt (c : UInt8) (h : dgB c = true) : dv c < 10 := by
  have := (dgB_iff c).1 h; unfold dv; omega
theorem dgs_lt (b : List UInt8) (h : odB b = true) : ∀ d ∈ dgs b, d < 10 := by
  intro d hd
  unfold dgs at hd
  obtain ⟨c, hc, rfl⟩ := List.mem_map.1 hd
  exact dv_lt c (List.all_eq_true.1 h c (List.mem_reverse.1 hc))
theorem decDigits_snoc (n d : Nat) (hn : 0 < n) (hd : d < 10) : Lib.decDigits (d + 10 * n) = Lib.decDigits n ++ [UInt8.ofNat (48 + d)] := by
  rw [Lib.decDigits, dif_neg (by omega)]
  rw [show (d + 10 * n) / 10 = n from by omega, show (d + 10 * n) % 10 = d from by omega]
theorem dgs_concat (a : List UInt8) (c : UInt8) : dgs (a ++ [c]) = dv c :: dgs a := by simp [dgs]
def num (l : List UInt8) : Int := if ngB l then -(vl 10 (dgs (bod l)) : Int) else (vl 10 (dgs (bod l)) : Int)
theorem can_cases (l : List UInt8) (h : ¬ chk l = 12) : l = [48] ∨ (szB (bod l) = true ∧ odB (bod l) = true) := by
  unfold chk at h
  by_cases h0 : l = [48]
  · exact .inl h0
  · rw [if_neg h0] at h
    by_cases hh : (szB (bod l) && odB (bod l)) = true
    · exact .inr (by simpa using hh)
    · rw [if_neg hh] at h; exact absurd rfl h
theorem num_zero : num [48] = 0 := by decide
theorem dec_good : ∀ (k u : Nat), u < 10 ^ k → 0 < u → szB (Lib.decDigits u) = true ∧ odB (Lib.decDigits u) = true ∧ vl 10 (dgs (Lib.decDigits u)) = u := by
  intro k
  induction k with
  | zero => intro u h h0; omega
  | succ k ih =>
    intro u h h0
    have d1 : ∀ i : Nat, i < 10 → dgB (UInt8.ofNat (48 + i)) = true ∧ dv (UInt8.ofNat (48 + i)) = i := by
      have : ∀ i : Fin 10, dgB (UInt8.ofNat (48 + i.val)) = true ∧ dv (UInt8.ofNat (48 + i.val)) = i.val := by decide +kernel
      exact fun i hi => this ⟨i, hi⟩
    by_cases hu : u < 10
    · rw [Lib.decDigits_one hu]
      have hz : ∀ i : Fin 10, 0 < i.val → szB [UInt8.ofNat (48 + i.val)] = true := by decide +kernel
      obtain ⟨c1, c2⟩ := d1 u hu
      have c3 : szB [UInt8.ofNat (48 + u)] = true := hz ⟨u, hu⟩ h0
      generalize UInt8.ofNat (48 + u) = c at c1 c2 c3
      refine ⟨c3, ?_, ?_⟩
      · simp [odB, c1]
      · simp [dgs, vl, c2]
    · have hq : u / 10 < 10 ^ k := by rw [Nat.pow_succ] at h; omega
      obtain ⟨h1, h2, h3⟩ := ih (u / 10) hq (by omega)
      have e : u = u % 10 + 10 * (u / 10) := by omega
      have hm : u % 10 < 10 := by omega
      have hdec : Lib.decDigits u = Lib.decDigits (u / 10) ++ [UInt8.ofNat (48 + u % 10)] := by
        have := decDigits_snoc (u / 10) (u % 10) (by omega) hm
        rwa [← e] at this
      rw [hdec]
      refine ⟨?_, ?_, ?_⟩
      · match hl : Lib.decDigits (u / 10), h1 with
        | c :: r, h1 => exact h1
      · unfold odB at *; rw [List.all_append, h2]; simpa using (d1 _ hm).1
      · rw [dgs_concat]; simp only [vl]; rw [h3, (d1 _ hm).2]; omega
theorem dec_good' (u : Nat) (h : 0 < u) : szB (Lib.decDigits u) = true ∧ odB (Lib.decDigits u) = true ∧ vl 10 (dgs (Lib.decDigits u)) = u :=
  dec_good u u (Nat.lt_pow_self (by omega)) h
theorem ng_of_sz (l : List UInt8) (h : szB l = true) : ngB l = false := by
  match l with
  | [] => rfl
  | c :: r =>
    have : ¬ c = 45 := by rintro rfl; simp [szB] at h
    simp [ngB, this]
theorem itoa_zero : Lib.itoa 0 = [48] := by decide +kernel
theorem itoa_pos (u : Nat) : Lib.itoa (u : Int) = Lib.decDigits u := by
  unfold Lib.itoa; rw [if_neg (by omega), Int.toNat_natCast]
theorem itoa_neg (u : Nat) (h : 0 < u) : Lib.itoa (-(u : Int)) = 45 :: Lib.decDigits u := by
  unfold Lib.itoa; rw [if_pos (by omega), Int.natAbs_neg, Int.natAbs_natCast]
theorem num_itoa (z : Int) : num (Lib.itoa z) = z := by
  rcases Int.lt_trichotomy z 0 with h | h | h
  · obtain ⟨u, rfl⟩ : ∃ u : Nat, z = -(u : Int) := ⟨z.natAbs, by omega⟩
    rw [itoa_neg u (by omega)]
    have e : ngB (45 :: Lib.decDigits u) = true := rfl
    unfold num
    rw [e, bod_neg, (dec_good' u (by omega)).2.2]; rfl
  · subst h; rw [itoa_zero, num_zero]
  · obtain ⟨u, rfl⟩ : ∃ u : Nat, z = (u : Int) := ⟨z.natAbs, by omega⟩
    obtain ⟨h1, h2, h3⟩ := dec_good' u (by omega)
    rw [itoa_pos]
    have e := ng_of_sz _ h1
    unfold num
    rw [e, bod_pos _ e, h3]; rfl
theorem itoa_inj {x y : Int} (h : Lib.itoa x = Lib.itoa y) : x = y := by
  rw [← num_itoa x, h, num_itoa]
theorem nDigits_le : ∀ (u : Nat), 0 < u → 10 ^ (Lib.nDigits u - 1) ≤ u := by
  intro u
  induction u using Nat.strongRecOn with
  | _ u ih =>
    intro h
    by_cases hu : u < 10
    · rw [Lib.nDigits_small hu]; omega
    · rw [Lib.nDigits_big hu]
      have h1 := ih (u / 10) (by omega) (by omega)
      have h2 := Lib.nDigits_pos (u / 10)
      obtain ⟨m, hm⟩ : ∃ m, Lib.nDigits (u / 10) = m + 1 := ⟨_, (Nat.sub_add_cancel h2).symm⟩
      rw [hm] at h1 ⊢
      rw [Nat.add_sub_cancel] at h1 ⊢
      rw [Nat.pow_succ]
      omega
def thou : Nat := 1000
@[irreducible] def lim : Nat := 10 ^ thou
theorem lim_pos : 0 < lim := by unfold lim; exact Nat.pow_pos (by omega)
def dch (d : Nat) : UInt8 := UInt8.ofNat (48 + d)
def sgn (neg : Bool) (u : Nat) : Int := if neg then -(u : Int) else (u : Int)
theorem itoa_sgn (neg : Bool) (u : Nat) (h : 0 < u) : Lib.itoa (sgn neg u) = (if neg then [45] else []) ++ Lib.decDigits u := by
  unfold sgn
  cases neg
  · exact itoa_pos u
  · exact itoa_neg u h
theorem itoa_sgn_zero (neg : Bool) : Lib.itoa (sgn neg 0) = [48] := by cases neg <;> exact itoa_zero
def bothE (l m : List UInt8) : Int := if chk l = 0 then chk m else chk l
theorem bothE_zero {l m : List UInt8} (h : bothE l m = 0) : chk l = 0 ∧ chk m = 0 := by
  unfold bothE at h
  split at h
  · next g => exact ⟨g, h⟩
  · next g => exact absurd h g
theorem bod_len_of_chk {l : List UInt8} (h : chk l = 0) : (bod l).length ≤ 1000 ∧ ∀ d ∈ dgs (bod l), d < 10 := by
  rcases can_cases l (by rw [h]; decide) with rfl | ⟨hs, ho⟩
  · exact ⟨by decide, by decide⟩
  · refine ⟨?_, dgs_lt _ ho⟩
    unfold chk at h
    split at h
    · next e => rw [e]; decide
    · rw [hs, ho, Bool.and_self, if_pos rfl] at h
      split at h
      · exact absurd h (by decide)
      · next g => omega
theorem dec_len_le (u k : Nat) (h : u < 10 ^ k) (h0 : 0 < u) : (Lib.decDigits u).length ≤ k := by
  rw [Lib.decDigits_length]
  have h1 := nDigits_le u h0
  have h2 : Lib.nDigits u - 1 < k := (Nat.pow_lt_pow_iff_right (by omega)).1 (Nat.lt_of_le_of_lt h1 h)
  omega
theorem vl_set (B : Nat) : ∀ (os : List Nat) (t v : Nat), t < os.length → vl B (os.set t v) + B ^ t * os.getD t 0 = vl B os + B ^ t * v := by
  intro os
  induction os with
  | nil => intro t v h; simp at h
  | cons d r ih =>
    intro t v h
    cases t with
    | zero => simp [vl]; omega
    | succ t =>
      have := ih t v (by simpa using h)
      simp only [List.set_cons_succ, vl, List.getD_cons_succ, Nat.pow_succ]
      generalize B ^ t = P at *
      grind
theorem getD_set (os : List Nat) (t v k : Nat) : (os.set t v).getD k 0 = if k = t ∧ t < os.length then v else os.getD k 0 := by
  simp only [List.getD_eq_getElem?_getD, List.getElem?_set]
  by_cases h : t = k
  · subst h
    by_cases hl : t < os.length
    · simp [hl]
    · simp [hl]
  · rw [if_neg h, if_neg (fun e => h e.1.symm)]
theorem mem_getD (os : List Nat) (N : Nat) (h : ∀ t, t < os.length → os.getD t 0 < N) : ∀ d ∈ os, d < N := by
  intro d hd
  obtain ⟨t, ht, rfl⟩ := List.getElem_of_mem hd
  have := h t ht
  simpa [List.getD_eq_getElem?_getD, ht] using this
theorem vl_zeros (B n : Nat) : vl B (List.replicate n 0) = 0 := by
  induction n with
  | zero => rfl
  | succ n ih => rw [List.replicate_succ, vl, ih]; simp
def grps (ds : List Nat) (n : Nat) : List Nat := (List.range n).map fun k => vl 10 ((ds.drop (9 * k)).take 9)
theorem grps_succ (ds : List Nat) (n : Nat) : grps ds (n + 1) = grps ds n ++ [vl 10 ((ds.drop (9 * n)).take 9)] := by
  unfold grps; rw [List.range_succ, List.map_append]; rfl
theorem grps_length (ds : List Nat) (n : Nat) : (grps ds n).length = n := by simp [grps]
theorem vl_take_add (B : Nat) (ds : List Nat) (m k : Nat) : vl B (ds.take (m + k)) = vl B (ds.take m) + B ^ m * vl B ((ds.drop m).take k) := by
  rw [List.take_add, vl_append]
  by_cases h : m ≤ ds.length
  · rw [List.length_take, Nat.min_eq_left h]
  · rw [List.drop_of_length_le (by omega)]; simp [vl]
theorem pow9 (n : Nat) : (1000000000 : Nat) ^ n = 10 ^ (9 * n) := by
  rw [Nat.pow_mul]
theorem vl_grps (ds : List Nat) (n : Nat) : vl 1000000000 (grps ds n) = vl 10 (ds.take (9 * n)) := by
  induction n with
  | zero => rfl
  | succ n ih =>
    rw [grps_succ, vl_snoc, grps_length, ih, pow9, Nat.mul_succ, vl_take_add]
theorem grps_lt (ds : List Nat) (n : Nat) (h : ∀ d ∈ ds, d < 10) : ∀ g ∈ grps ds n, g < 1000000000 := by
  intro g hg
  unfold grps at hg
  obtain ⟨k, _, rfl⟩ := List.mem_map.1 hg
  have h1 := take_lt 10 (ds.drop (9 * k)) (fun d hd => h d (List.mem_of_mem_drop hd)) 9 (by omega)
  have h2 : (10 : Nat) ^ 9 = 1000000000 := by decide
  omega
theorem grps_all (ds : List Nat) (n : Nat) (h : ds.length ≤ 9 * n) : vl 1000000000 (grps ds n) = vl 10 ds := by
  rw [vl_grps, List.take_of_length_le h]
theorem dgs_take (b : List UInt8) (k : Nat) : dgs (b.take k) = (dgs b).drop (b.length - k) := by
  unfold dgs; rw [List.reverse_take, List.map_drop]
theorem dgs_drop (b : List UInt8) (k : Nat) : dgs (b.drop k) = (dgs b).take (b.length - k) := by
  unfold dgs; rw [List.reverse_drop, List.map_take]
theorem dgs_mid (b : List UInt8) (a e : Nat) (he : e ≤ b.length) (h9 : e - a ≤ 9) (hr : e - a = 9 ∨ a = 0) : vl 10 (dgs ((b.drop a).take (e - a))) = vl 10 (((dgs b).drop (b.length - e)).take 9) := by
  rw [dgs_take, dgs_drop, List.length_drop]
  congr 1
  rw [List.drop_take]
  have e1 : b.length - a - (e - a) = b.length - e ∨ e ≤ a := by omega
  rcases e1 with e1 | e1
  · rw [e1]
    rcases hr with hr | hr
    · congr 1; omega
    · subst hr
      rw [List.take_of_length_le (by rw [List.length_drop, dgs_length]; omega), List.take_of_length_le (by rw [List.length_drop, dgs_length]; omega)]
  · rcases hr with hr | hr
    · omega
    · subst hr
      have : e = 0 := by omega
      subst this
      rw [List.drop_of_length_le (by rw [dgs_length]; omega), List.drop_of_length_le (by rw [dgs_length]; omega)]
      simp
def digs (k r : Nat) : List UInt8 := (List.range k).map fun i => dch (r / 10 ^ (k - 1 - i) % 10)
theorem digs_succ (k r : Nat) : digs (k + 1) r = digs k (r / 10) ++ [dch (r % 10)] := by
  unfold digs
  rw [List.range_succ, List.map_append]
  congr 1
  · refine List.map_congr_left fun i hi => ?_
    have hi' := List.mem_range.1 hi
    have e : k + 1 - 1 - i = (k - 1 - i) + 1 := by omega
    rw [e, Nat.pow_succ, Nat.mul_comm, ← Nat.div_div_eq_div_mul]
  · simp
theorem dec_groups : ∀ (k r q : Nat), r < 10 ^ k → 0 < q → Lib.decDigits (r + 10 ^ k * q) = Lib.decDigits q ++ digs k r := by
  intro k
  induction k with
  | zero =>
    intro r q h _
    have : r = 0 := by simpa using h
    subst this
    simp [digs]
  | succ k ih =>
    intro r q h hq
    have h1 : r / 10 < 10 ^ k := by rw [Nat.pow_succ] at h; omega
    have e : r + 10 ^ (k + 1) * q = r % 10 + 10 * (r / 10 + 10 ^ k * q) := by
      rw [Nat.pow_succ]
      have := Nat.mod_add_div r 10
      generalize 10 ^ k = T at *
      generalize r % 10 = m at *
      generalize r / 10 = d at *
      grind
    have hp : 0 < 10 ^ k * q := Nat.mul_pos (Nat.pow_pos (by omega)) hq
    rw [e, decDigits_snoc _ _ (by omega) (by omega), ih _ _ h1 hq, digs_succ, List.append_assoc]
    rfl
theorem digs_take (k r : Nat) (j : Nat) (h : j < k) : (digs k r).take (j + 1) = (digs k r).take j ++ [dch (r / 10 ^ (k - 1 - j) % 10)] := by
  have hl : j < (digs k r).length := by simpa [digs] using h
  rw [List.take_add_one, List.getElem?_eq_getElem hl]
  simp [digs]
theorem digs_length (k r : Nat) : (digs k r).length = k := by simp [digs]
def gtail : List Nat → List UInt8
  | [] => []
  | g :: r => gtail r ++ digs 9 g
theorem gtail_length (zs : List Nat) : (gtail zs).length = 9 * zs.length := by
  induction zs with
  | nil => rfl
  | cons g r ih => simp [gtail, ih, digs_length]; omega
theorem dec_zs : ∀ (zs : List Nat) (q : Nat), (∀ d ∈ zs, d < 1000000000) → 0 < q → Lib.decDigits (vl 1000000000 (zs ++ [q])) = Lib.decDigits q ++ gtail zs := by
  intro zs
  induction zs with
  | nil => intro q _ _; simp [vl, gtail]
  | cons g r ih =>
    intro q h hq
    have h1 := ih q (fun d hd => h d (by simp [hd])) hq
    have hv : 0 < vl 1000000000 (r ++ [q]) := by
      rw [vl_snoc]
      have : 0 < 1000000000 ^ r.length * q := Nat.mul_pos (Nat.pow_pos (by omega)) hq
      omega
    have e9 : (1000000000 : Nat) = 10 ^ 9 := by decide
    have := dec_groups 9 g (vl 1000000000 (r ++ [q])) (by rw [← e9]; exact h g (by simp)) hv
    rw [← e9] at this
    rw [List.cons_append, vl, this, h1, gtail, List.append_assoc]
end Go.Proofs.YtalejbabhjlehaaGreatDoor
/- Words for memory: a slice that reads as a list, whatever its elements' encoding; what a call of the seat's own hands on. -/
namespace Go.Proofs.YtalejbabhjlehaaGreatDoor
open Go Go.RowKit
def SlA {α : Type} (enc : α → Value) (w : World) (A : Option Addr) (xs : List α) : Prop :=
  ∀ j x, xs[j]? = some x → ∃ b o, A = some ⟨b, o, none⟩ ∧ b < w.heap.size ∧ w.cell? ⟨b, o + j, none⟩ = some (enc x)
section
variable {α : Type} {enc : α → Value} {w w' : World} {A : Option Addr} {xs : List α}
theorem SlA.nil : SlA enc w A ([] : List α) := fun j x h => by simp at h
theorem SlA.below (h : SlA enc w A xs) (hb : Below w.heap.size w w') : SlA enc w' A xs := fun j x hx => by
  obtain ⟨b, o, h1, h2, h3⟩ := h j x hx
  exact ⟨b, o, h1, Nat.lt_of_lt_of_le h2 hb.size, (hb.cell (p := ⟨b, o + j, none⟩) h2).trans h3⟩
theorem SlA.get {j : Nat} (h : SlA enc w A xs) (hj : j < xs.length) : ∃ b o, A = some ⟨b, o, none⟩ ∧ b < w.heap.size ∧ w.cell? ⟨b, o + j, none⟩ = some (enc xs[j]) :=
  h j _ (List.getElem?_eq_getElem hj)
theorem SlA.take {k : Nat} (h : SlA enc w A xs) : SlA enc w A (xs.take k) := fun j x hx => by
  rw [List.getElem?_take] at hx
  split at hx
  · exact h j x hx
  · simp at hx
theorem SlA.all (h : SlA enc w A xs) (hne : xs ≠ []) : ∃ b o, A = some ⟨b, o, none⟩ ∧ b < w.heap.size ∧ ∀ (j : Nat) (hj : j < xs.length), w.cell? ⟨b, o + j, none⟩ = some (enc xs[j]) := by
  obtain ⟨b, o, h1, h2, _⟩ := h.get (j := 0) (by cases xs <;> simp_all)
  refine ⟨b, o, h1, h2, fun j hj => ?_⟩
  obtain ⟨b', o', h1', _, h3⟩ := h.get hj
  rw [h1] at h1'
  simp only [Option.some.injEq, Addr.mk.injEq, and_true] at h1'
  obtain ⟨rfl, rfl⟩ := h1'
  exact h3
end
theorem SlA.of_own {α : Type} {enc : α → Value} {w : World} {base e n : Nat} {v : Value} {xs : List α} (h : w.ownsRow base e 1 v n (xs.map enc)) :
    ∃ A c, v = .slice A n c ∧ n = xs.length ∧ SlA enc w A xs := by
  have hl : n = xs.length := by have := h.1; simpa using this.symm
  rcases h.2 with ⟨hv, hn⟩ | ⟨g, cap, cur, hv, hb, hh, _⟩
  · refine ⟨none, 0, by rw [hv, hn], hl, fun j x hx => ?_⟩
    have h0 : xs = [] := List.eq_nil_of_length_eq_zero (by omega)
    rw [h0] at hx
    simp at hx
  · refine ⟨some ⟨g, 0, none⟩, cap, hv, hl, fun j x hx => ⟨g, 0, rfl, lt_of_block hh, ?_⟩⟩
    subst hv
    have := h.cells (g := g) rfl j (enc x) (by rw [List.getElem?_map, hx]; rfl)
    by_cases hj : j = 0
    · subst hj
      simpa [Addr.add] using this
    · simpa [Addr.add, hj] using this
theorem SlA.of_cells {α : Type} {enc : α → Value} {w : World} {b : Nat} {t : TypeId} {cs : Array Value} {xs : List α} (h : w.heap[b]? = some (.cells cs t (0, 0))) (hc : cs.toList = xs.map enc) : SlA enc w (some ⟨b, 0, none⟩) xs := fun j x hx => by
  refine ⟨b, 0, rfl, lt_of_block h, ?_⟩
  have : cs[j]? = some (enc x) := by rw [← Array.getElem?_toList, hc, List.getElem?_map, hx]; rfl
  simp [World.cell?, h, this]
theorem take_snoc {α : Type} (xs : List α) (k : Nat) (h : k < xs.length) : xs.take (k + 1) = xs.take k ++ [xs[k]] := by
  rw [List.take_add_one, List.getElem?_eq_getElem h]; rfl
theorem bcell {W w1 : World} (hb : Below W.heap.size W w1) : (∀ b o, b < W.heap.size → w1.cell? ⟨b, o, none⟩ = W.cell? ⟨b, o, none⟩) ∧ (∀ b o, b < W.heap.size → w1.frozen? ⟨b, o, none⟩ = W.frozen? ⟨b, o, none⟩) :=
  ⟨fun b o h => hb.cell (p := ⟨b, o, none⟩) h, fun b o h => hb.frozen (p := ⟨b, o, none⟩) h⟩
theorem ret_bool {a b : Bool} (h : a = b) : Ending.returned (.bool a) = .returned (.bool b) := by rw [h]
theorem ret_str {a b : List UInt8} (h : a = b) : Ending.returned (.string ⟨a.toArray⟩) = .returned (.string ⟨b.toArray⟩) := by rw [h]
theorem int_eq {k : IntKind} {a b : Int} (h : a = b) : Value.int k a = Value.int k b := by rw [h]
theorem ret_int {k : IntKind} {a b : Int} (h : a = b) : Ending.returned (.int k a) = .returned (.int k b) := by rw [h]
theorem wpList_app1 {P : Program} {ops : Array Oper} {rest : List Oper} {o : Oper} {a : Act} {Q : Exit → Act → World → Prop} {w : World} {base : Nat} {e : TypeId} {v : Value} {n : Nat} {xs : List Value} (hown : w.ownsRow base e 1 v n xs) (x : Value) (hgd : o.guard = none) (s y : Operand) (t : TypeId)
    (ho : o.op = .call { callee := .builtin .append, args := #[s, y], argTypes := #[t, t] })
    (i : TypeInfo) (z : Value) (bytes : Nat) (ht : P.underlying t = some (.slice e)) (hi : P.info? e = some i) (hz : i.zero = some z)
    (hsize : i.size = 1) (hby : i.bytes = bytes) (hzs : z.cells.size = 1)
    (hs : a.eval s = v) (hx : a.eval y = .slice (some ⟨w.heap.size, 0, none⟩) 1 1) (h1 : x.oneCell' = true) (h63 : n + 1 ≤ maxLen) (hbytes : (n + 1) * bytes ≤ 140737488355328) (hbase : base ≤ w.heap.size)
    (h : ∀ v' w', w'.ownsRow base e 1 v' (n + 1) (xs ++ [x]) → Below base w w' → wpList P ops Q rest (a.put o.dst v') w') : wpList P ops Q (o :: rest) a (w.alloc (.cells #[x] e)) := by
  refine wpList_append_own (w.alloc (.cells #[x] e)) hgd s y t ho base e i z 1 bytes ht hi hz hsize hby hzs (by decide) v n xs hs (hown.alloc _) ⟨w.heap.size, 0, none⟩ 1 1 [x] hx rfl ?_ ?_ h63 hbytes (by simp; omega) ?_
  · intro j u hj
    match j, hj with
    | 0, hj =>
      obtain rfl : x = u := by simpa using hj
      simp [Addr.add]
  · intro u hu
    obtain rfl : u = x := by simpa using hu
    exact h1
  · intro v' w' h2 h3 _
    exact h v' w' h2 (((Below.refl _ _).alloc hbase _).grown h3 (by simp; omega) fun k hk => (hown.lt k hk).1)
theorem conv_own {P : Program} {w : World} {base e : TypeId} {n : Nat} {v : Value} {l : List UInt8} (h : w.ownsRow base e 1 v n (Lib.byteCells l)) (src dst : TypeId) (hs : P.underlying src = some (.slice e)) (he : P.underlying e = some (.int .u8)) (hd : P.underlying dst = some .string) :
    (convert src dst v).run P w = .ok (.string ⟨l.toArray⟩) w := by
  have hl : n = l.length := by have := h.1; simpa [Lib.byteCells] using this.symm
  rcases h.2 with ⟨hv, hn⟩ | ⟨g, cap, cur, hv, hb, hh, _⟩
  · have h0 : l = [] := List.eq_nil_of_length_eq_zero (by omega)
    subst hv; subst h0
    rw [run_convert_bytes_string w src dst e none 0 0 hs he hd]
    rfl
  · subst hv
    rw [hl]
    refine run_convert_bytes_back w src dst e ⟨g, 0, none⟩ cap l hs he hd fun j hj => ?_
    exact h.cells (g := g) rfl j _ (by simp [Lib.byteCells, hj])
theorem own_byte {w : World} {base : Nat} {e : TypeId} {v : Value} {k : Nat} {l : List UInt8} {n : Nat} {z : Int} (h : w.ownsRow base e 1 v (k + 1) (Lib.byteCells l ++ [.int .u8 z])) (hn : (n : Int) = z) (h256 : n < 256) : w.ownsRow base e 1 v (k + 1) (Lib.byteCells (l ++ [UInt8.ofNat n])) := by
  have : Lib.byteCells (l ++ [UInt8.ofNat n]) = Lib.byteCells l ++ [.int .u8 z] := by
    rw [← hn]
    simp [Lib.byteCells]
    omega
  rw [this]
  exact h
theorem bt {a b c : World} (h : Below a.heap.size a b) (k : Below b.heap.size b c) : Below a.heap.size a c := h.trans (k.mono h.size)
end Go.Proofs.YtalejbabhjlehaaGreatDoor

/- Layer 4, plain: joint calendars: the weekend of both, and two lists in order put together step by step. -/
import Derived.Test.YtgnmcjfocnnffaaCalT
namespace Go.Proofs.Ytgnmcjfocnnffaa
open Go Go.RowKit Go.Lib

/-- The weekend of both. -/
def orW (a b : Int) : Int := ((a.toNat ||| b.toNat : Nat) : Int)
theorem orW_comm (a b : Int) : orW a b = orW b a := by unfold orW; rw [Nat.or_comm]
theorem orW_self (a : Int) (h : 0 ≤ a) : orW a a = a := by unfold orW; rw [Nat.or_self]; omega
theorem orW_bd (a b : Int) (a0 : 0 ≤ a) (a1 : a ≤ 126) (b0 : 0 ≤ b) (b1 : b ≤ 126) : 0 ≤ orW a b ∧ orW a b ≤ 127 := by
  unfold orW
  have : a.toNat ||| b.toNat < 2 ^ 7 := Nat.or_lt_two_pow (by omega) (by omega)
  omega
theorem offB_bit (we d : Int) (h : 0 ≤ we) : offB we d = we.toNat.testBit (d % 7).toNat := by
  obtain ⟨n, rfl⟩ : ∃ n : Nat, we = n := ⟨we.toNat, by omega⟩
  have e1 : ((n : Int) / 2 ^ (d % 7).toNat % 2 = 1) ↔ (n / 2 ^ (d % 7).toNat % 2 = 1) := by
    rw [show ((n : Int) / 2 ^ (d % 7).toNat % 2) = ((n / 2 ^ (d % 7).toNat % 2 : Nat) : Int) by simp]
    omega
  unfold offB
  rw [Nat.testBit_eq_decide_div_mod_eq, Bool.eq_iff_iff, decide_eq_true_iff, decide_eq_true_iff, e1]
  simp
theorem orW_off (a b d : Int) (a0 : 0 ≤ a) (b0 : 0 ≤ b) : offB (orW a b) d = (offB a d || offB b d) := by
  rw [offB_bit _ _ (by unfold orW; omega), offB_bit _ _ a0, offB_bit _ _ b0]
  have : (orW a b).toNat = a.toNat ||| b.toNat := by unfold orW; simp
  rw [this, Nat.testBit_or]
/-- What joining comes to. -/
def joE (we1 : Int) (hs1 : List Int) (we2 : Int) (hs2 : List Int) : Int :=
  if valB we1 hs1 && valB we2 hs2 then (if orW we1 we2 = 127 then 6 else if 1000 < (uniL hs1 hs2).length then 4 else 0) else 8
def joW (we1 : Int) (hs1 : List Int) (we2 : Int) (hs2 : List Int) : Int := if joE we1 hs1 we2 hs2 = 0 then orW we1 we2 else 0
def joL (we1 : Int) (hs1 : List Int) (we2 : Int) (hs2 : List Int) : List Int := if joE we1 hs1 we2 hs2 = 0 then uniL hs1 hs2 else []

theorem bit_nat (n i : Nat) : (decide ((n : Int) / 2 ^ i % 2 = 1)) = n.testBit i := by
  rw [Nat.testBit_eq_decide_div_mod_eq]
  have e : (n : Int) / 2 ^ i % 2 = ((n / 2 ^ i % 2 : Nat) : Int) := by simp
  rw [e]
  exact decide_eq_decide.2 (by omega)
theorem orW_step (a b : Int) (i : Nat) (a0 : 0 ≤ a) (b0 : 0 ≤ b) : orW a b / 2 ^ i = 2 * (orW a b / 2 ^ (i + 1)) + (if decide (a / 2 ^ i % 2 = 1) || decide (b / 2 ^ i % 2 = 1) then 1 else 0) := by
  obtain ⟨m, rfl⟩ : ∃ m : Nat, a = m := ⟨a.toNat, by omega⟩
  obtain ⟨n, rfl⟩ : ∃ n : Nat, b = n := ⟨b.toNat, by omega⟩
  rw [bit_nat, bit_nat, ← Nat.testBit_or]
  unfold orW
  simp only [Int.toNat_natCast]
  generalize m ||| n = t
  have e1 : ((t : Nat) : Int) / 2 ^ i = ((t / 2 ^ i : Nat) : Int) := by simp
  have e2 : ((t : Nat) : Int) / 2 ^ (i + 1) = ((t / 2 ^ i / 2 : Nat) : Int) := by
    rw [Nat.div_div_eq_div_mul, ← Nat.pow_succ]; simp
  rw [e1, e2, Nat.testBit_eq_decide_div_mod_eq]
  generalize t / 2 ^ i = q
  by_cases h : q % 2 = 1 <;> simp [h] <;> omega
/-- Two lists in strict order, as far as they are put together. -/
structure Mg (xs ys : List Int) (i k : Nat) (out : List Int) : Prop where
  st : out.Pairwise (· < ·)
  mem : ∀ a, a ∈ out ↔ a ∈ xs.take i ∨ a ∈ ys.take k
  lo : ∀ a ∈ out, (∀ b ∈ xs.drop i, a < b) ∧ (∀ b ∈ ys.drop k, a < b)
theorem Mg.start (xs ys : List Int) : Mg xs ys 0 0 [] := ⟨List.Pairwise.nil, fun a => by simp, fun a h => by cases h⟩
/-- How far one of the lists goes on when n is put behind. -/
def MgN (xs : List Int) (n : Int) (i i' : Nat) : Prop := (i' = i + 1 ∧ i < xs.length ∧ xs.getD i 0 = n) ∨ (i' = i ∧ (i < xs.length → n < xs.getD i 0))
theorem drop_get {xs : List Int} {i : Nat} (h : i < xs.length) : xs.drop i = xs.getD i 0 :: xs.drop (i + 1) := by
  rw [List.drop_eq_getElem_cons h, List.getD_eq_getElem?_getD, List.getElem?_eq_getElem h]; rfl
theorem take_get {xs : List Int} {i : Nat} (h : i < xs.length) : xs.take (i + 1) = xs.take i ++ [xs.getD i 0] := by
  rw [List.take_add_one, List.getElem?_eq_getElem h, List.getD_eq_getElem?_getD, List.getElem?_eq_getElem h]; rfl
theorem MgN.low {xs : List Int} {n : Int} {i i' : Nat} (h : MgN xs n i i') (hs : xs.Pairwise (· < ·)) : ∀ b ∈ xs.drop i', n < b := by
  have hp : (xs.drop i).Pairwise (· < ·) := hs.sublist (List.drop_sublist _ _)
  intro b hb
  rcases h with ⟨rfl, hi, e⟩ | ⟨rfl, hn⟩
  · rw [drop_get hi] at hp
    have := (List.pairwise_cons.1 hp).1 b hb
    omega
  · by_cases hi : i' < xs.length
    · rw [drop_get hi] at hp hb
      have h1 := hn hi
      rcases List.mem_cons.1 hb with rfl | hb
      · exact h1
      · have := (List.pairwise_cons.1 hp).1 b hb; omega
    · rw [List.drop_of_length_le (by omega)] at hb; cases hb
theorem MgN.sub {xs : List Int} {n : Int} {i i' : Nat} (h : MgN xs n i i') : ∀ b ∈ xs.drop i', b ∈ xs.drop i := by
  intro b hb
  rcases h with ⟨rfl, hi, e⟩ | ⟨rfl, _⟩
  · rw [drop_get hi]; exact List.mem_cons_of_mem _ hb
  · exact hb
theorem MgN.le {xs : List Int} {n : Int} {i i' : Nat} (h : MgN xs n i i') (hi : i ≤ xs.length) : i ≤ i' ∧ i' ≤ xs.length := by
  rcases h with ⟨rfl, h1, _⟩ | ⟨rfl, _⟩ <;> omega
theorem MgN.mem {xs : List Int} {n : Int} {i i' : Nat} (h : MgN xs n i i') (a : Int) : a ∈ xs.take i' ↔ a ∈ xs.take i ∨ (i' = i + 1 ∧ a = n) := by
  rcases h with ⟨rfl, hi, e⟩ | ⟨rfl, _⟩
  · rw [take_get hi, e]; simp
  · constructor
    · exact fun h => .inl h
    · rintro (h | ⟨h, _⟩)
      · exact h
      · omega
theorem Mg.step {xs ys : List Int} {i k i' k' : Nat} {out : List Int} {n : Int} (h : Mg xs ys i k out) (hx : xs.Pairwise (· < ·)) (hy : ys.Pairwise (· < ·)) (h1 : MgN xs n i i') (h2 : MgN ys n k k') (hp : i' = i + 1 ∨ k' = k + 1) : Mg xs ys i' k' (out ++ [n]) := by
  have hn : n ∈ xs.drop i ∨ n ∈ ys.drop k := by
    rcases hp with e | e
    · rcases h1 with ⟨_, hi, e1⟩ | ⟨e2, _⟩
      · left; rw [drop_get hi, e1]; simp
      · omega
    · rcases h2 with ⟨_, hi, e1⟩ | ⟨e2, _⟩
      · right; rw [drop_get hi, e1]; simp
      · omega
  refine ⟨?_, ?_, ?_⟩
  · rw [List.pairwise_append]
    refine ⟨h.st, List.pairwise_singleton _ _, fun a ha b hb => ?_⟩
    obtain rfl : b = n := by simpa using hb
    rcases hn with hn | hn
    · exact (h.lo a ha).1 _ hn
    · exact (h.lo a ha).2 _ hn
  · intro a
    rw [List.mem_append, h.mem, h1.mem, h2.mem, List.mem_singleton]
    constructor
    · rintro ((h | h) | rfl)
      · exact .inl (.inl h)
      · exact .inr (.inl h)
      · rcases hp with e | e
        · exact .inl (.inr ⟨e, rfl⟩)
        · exact .inr (.inr ⟨e, rfl⟩)
    · rintro ((h | ⟨_, rfl⟩) | (h | ⟨_, rfl⟩))
      · exact .inl (.inl h)
      · exact .inr rfl
      · exact .inl (.inr h)
      · exact .inr rfl
  · intro a ha
    rcases List.mem_append.1 ha with ha | ha
    · exact ⟨fun b hb => (h.lo a ha).1 b (h1.sub b hb), fun b hb => (h.lo a ha).2 b (h2.sub b hb)⟩
    · obtain rfl : a = n := by simpa using ha
      exact ⟨h1.low hx, h2.low hy⟩
theorem Mg.uni {xs ys : List Int} {i k : Nat} {out : List Int} (h : Mg xs ys i k out) : out = uniL (xs.take i) (ys.take k) :=
  strict_ext h.st (uniL_spec _ _).1 (fun a => (h.mem a).trans ((uniL_spec _ _).2 a).symm)
theorem Mg.len {xs ys : List Int} {i k : Nat} {out : List Int} (h : Mg xs ys i k out) : out.length ≤ i + k := by
  rw [h.uni]
  have := uniL_len (xs.take i) (ys.take k)
  have := List.length_take_le i xs
  have := List.length_take_le k ys
  omega
theorem Mg.full {xs ys out : List Int} (h : Mg xs ys xs.length ys.length out) : out = uniL xs ys := by
  have := h.uni
  rwa [List.take_of_length_le (Nat.le_refl _), List.take_of_length_le (Nat.le_refl _)] at this
end Go.Proofs.Ytgnmcjfocnnffaa

/- The walks of layer 1: the invariant of the division of magnitudes, over any base. -/
import Derived.Test.YtlipjedofegciaaDoorIntK5
namespace Go.Proofs.YtlipjedofegciaaDoor
open Go Go.RowKit

/-- The groups from j on are done: rest and quotient. -/
structure DvInv (B X V : Nat) (rs qs : List Nat) (j : Nat) : Prop where
  rlt : ∀ d ∈ rs, d < B
  sum : vl B rs + V * vl B qs = X
  lt : vl B rs < V * B ^ j
  zero : ∀ t, t < j → qs.getD t 0 = 0

/-- The part that counts holds less than V times the base; what lies above it is nothing. -/
theorem DvInv.part {B X V : Nat} {pre p post qs : List Nat} {i : Nat} (hB : 0 < B) (h : DvInv B X V (pre ++ p ++ post) qs (i + 1)) (hi : pre.length = i) (hV : V < B ^ (p.length - 1)) (hp : 1 ≤ p.length) :
    vl B p < V * B ∧ vl B post = 0 := by
  have hl := h.lt
  rw [List.append_assoc, vl_append, vl_append, hi, Nat.pow_succ] at hl
  have hT : 0 < B ^ i := Nat.pow_pos hB
  have h1 : B ^ i * (vl B p + B ^ p.length * vl B post) < B ^ i * (V * B) := by
    have : V * (B ^ i * B) = B ^ i * (V * B) := by grind
    omega
  have h2 := Nat.lt_of_mul_lt_mul_left h1
  have h3 : vl B post = 0 := by
    rcases Nat.eq_zero_or_pos (vl B post) with h0 | h0
    · exact h0
    · have a : B ^ p.length * 1 ≤ B ^ p.length * vl B post := Nat.mul_le_mul_left _ h0
      have b : V * B ≤ B ^ (p.length - 1) * B := Nat.mul_le_mul_right _ (by omega)
      rw [← Nat.pow_succ, show (p.length - 1).succ = p.length by omega] at b
      omega
  rw [h3, Nat.mul_zero, Nat.add_zero] at h2
  exact ⟨h2, h3⟩

theorem DvInv.step {B X V : Nat} {pre p post qs : List Nat} {i : Nat} (hV : 0 < V) (h : DvInv B X V (pre ++ p ++ post) qs (i + 1)) (hi : pre.length = i) (h0 : vl B post = 0) (hq : i < qs.length)
    (p' : List Nat) (hb : ∀ d ∈ p', d < B) (hv : vl B p' = vl B p - vl B p / V * V) :
    DvInv B X V (pre ++ p' ++ post) (qs.set i (vl B p / V)) i := by
  have hz := h.zero i (by omega)
  have hs := h.sum
  have hdm := Nat.div_add_mod (vl B p) V
  have hml := Nat.mod_lt (vl B p) hV
  have hpre : vl B pre < B ^ i := by rw [← hi]; exact vl_lt B pre (fun d hd => h.rlt d (by simp [hd]))
  have hset := vl_set B qs i (vl B p / V) hq
  rw [hz, Nat.mul_zero, Nat.add_zero] at hset
  rw [Nat.mul_comm] at hdm
  have hv' : vl B p' = vl B p % V := by omega
  refine ⟨fun d hd => ?_, ?_, ?_, fun t ht => ?_⟩
  · simp only [List.mem_append] at hd
    rcases hd with (hd | hd) | hd
    · exact h.rlt d (by simp [hd])
    · exact hb d hd
    · exact h.rlt d (by simp [hd])
  · rw [List.append_assoc, vl_append, vl_append, h0, Nat.mul_zero, Nat.add_zero, hi] at hs ⊢
    rw [hset, hv']
    generalize vl B p / V = q at *
    generalize vl B p % V = r at *
    generalize B ^ i = T at *
    rw [← hdm] at hs
    grind
  · rw [List.append_assoc, vl_append, vl_append, h0, Nat.mul_zero, Nat.add_zero, hi, hv']
    generalize vl B p % V = r at *
    generalize B ^ i = T at *
    have h1 : T * (r + 1) ≤ T * V := Nat.mul_le_mul_left _ hml
    rw [Nat.mul_add, Nat.mul_one, Nat.mul_comm T V] at h1
    omega
  · rw [getD_set, if_neg (by omega)]; exact h.zero t (by omega)

theorem vl_ge (B : Nat) (ys : List Nat) (h0 : ys ≠ []) (ht : ys.getD (ys.length - 1) 0 ≠ 0) : B ^ (ys.length - 1) ≤ vl B ys := by
  obtain ⟨zs, q, rfl⟩ : ∃ zs q, ys = zs ++ [q] := ⟨_, _, (List.dropLast_concat_getLast h0).symm⟩
  have hl : (zs ++ [q]).length - 1 = zs.length := by simp
  rw [hl] at ht ⊢
  have e : (zs ++ [q]).getD zs.length 0 = q := by simp [List.getD_eq_getElem?_getD]
  rw [e] at ht
  rw [vl_snoc]
  have : B ^ zs.length * 1 ≤ B ^ zs.length * q := Nat.mul_le_mul_left _ (by omega)
  omega
theorem DvInv.start (B V N : Nat) (hB : 0 < B) (xs ys : List Nat) (hx : ∀ d ∈ xs, d < B) (hy : B ^ (ys.length - 1) ≤ V) (hN : xs.length ≤ ys.length - 1 + N) : DvInv B (vl B xs) V (xs ++ [0]) (List.replicate N 0) N := by
  have e : vl B (xs ++ [0]) = vl B xs := by rw [vl_snoc]; simp
  refine ⟨fun d hd => ?_, ?_, ?_, fun t _ => ?_⟩
  · simp only [List.mem_append, List.mem_singleton] at hd
    rcases hd with hd | rfl
    · exact hx d hd
    · exact hB
  · rw [e, vl_zeros, Nat.mul_zero, Nat.add_zero]
  · rw [e]
    have h1 := vl_lt B xs hx
    have h2 : B ^ xs.length ≤ B ^ (ys.length - 1 + N) := Nat.pow_le_pow_right hB hN
    have h3 : B ^ (ys.length - 1) * B ^ N ≤ V * B ^ N := Nat.mul_le_mul_right _ hy
    rw [← Nat.pow_add] at h3
    omega
  · exact zeros_getD N t
theorem DvInv.last {B X V : Nat} {rs qs : List Nat} (h : DvInv B X V rs qs 0) : vl B qs = X / V ∧ vl B rs = X % V := by
  have h1 := h.sum
  have h2 := h.lt
  rw [Nat.pow_zero, Nat.mul_one] at h2
  have e : X = vl B rs + vl B qs * V := by rw [← h1, Nat.mul_comm]
  constructor
  · rw [e, Nat.add_mul_div_right _ _ (by omega), Nat.div_eq_of_lt h2, Nat.zero_add]
  · rw [e, Nat.add_mul_mod_self_right, Nat.mod_eq_of_lt h2]
/-- The part of the rest that a round works on. -/
theorem part_split (rs : List Nat) (i m : Nat) (h : i + m ≤ rs.length) : rs = rs.take i ++ (rs.drop i).take m ++ rs.drop (i + m) ∧ (rs.take i).length = i ∧ ((rs.drop i).take m).length = m := by
  refine ⟨?_, by simp; omega, by simp; omega⟩
  rw [List.append_assoc, ← List.drop_drop, List.take_append_drop, List.take_append_drop]
theorem SlA.part {w : World} {base e g n : Nat} {pre p post : List Nat} (h : w.ownsRow base e 1 (.slice (some ⟨g, 0, none⟩) n n) n ((pre ++ p ++ post).map encU)) : SlA encU w (some ⟨g, pre.length, none⟩) p := fun j x hx => by
  have hj : j < p.length := (List.getElem?_eq_some_iff.1 hx).1
  have hc := own_cellU h (pre.length + j) (by simp; omega)
  rw [getD_mid _ _ _ _ hj] at hc
  have ex : p.getD j 0 = x := by rw [List.getD_eq_getElem?_getD, hx]; rfl
  rw [ex] at hc
  exact ⟨g, pre.length, rfl, World.block_lt_of_cell? w _ hc, hc⟩
end Go.Proofs.YtlipjedofegciaaDoor

/- The walks of layer 1: the arithmetic of one group of a quotient. -/
import Derived.Test.YtlipjedofegciaaDoorIntK3
namespace Go.Proofs.YtlipjedofegciaaDoor
open Go Go.RowKit

theorem guess_bound (B T r s U V2 P V : Nat) (hT : 0 < T) (hP : P = r + T * U) (hV : V = s + T * V2) (hr : r < T) (hs : s < T) (hB : B ≤ V2) (hB0 : 0 < B) (hlt : P < V * B) :
    U < (V2 + 1) * B ∧ P / V ≤ U / V2 ∧ U / V2 ≤ P / V + 1 ∧ P / V < B := by
  have hV2 : 0 < V2 := by omega
  have hV0 : 0 < V := by
    have : 0 < T * V2 := Nat.mul_pos hT hV2
    omega
  have hq : P / V < B := by rw [Nat.div_lt_iff_lt_mul hV0, Nat.mul_comm]; exact hlt
  have hq1 : P / V * V ≤ P := Nat.div_mul_le_self P V
  have hq2 : P < (P / V + 1) * V := by
    have := Nat.div_add_mod P V
    have h2 := Nat.mod_lt P hV0
    rw [Nat.add_mul, Nat.one_mul, Nat.mul_comm]
    omega
  generalize P / V = q at *
  have hVle : V ≤ T * (V2 + 1) := by rw [Nat.mul_add]; omega
  have a1 : T * U < T * ((V2 + 1) * B) := by
    have : V * B ≤ T * (V2 + 1) * B := Nat.mul_le_mul_right _ hVle
    rw [Nat.mul_assoc] at this
    omega
  have a2 : U < (V2 + 1) * B := Nat.lt_of_mul_lt_mul_left a1
  have a3 : T * (q * V2) < T * (U + 1) := by
    have h1 : q * (T * V2) ≤ q * V := Nat.mul_le_mul_left _ (by omega)
    have h2 : q * (T * V2) = T * (q * V2) := by grind
    rw [Nat.mul_add T U 1]
    omega
  have a4 : q * V2 < U + 1 := Nat.lt_of_mul_lt_mul_left a3
  have a5 : T * U < T * ((q + 1) * (V2 + 1)) := by
    have h1 : (q + 1) * V ≤ (q + 1) * (T * (V2 + 1)) := Nat.mul_le_mul_left _ hVle
    have h2 : (q + 1) * (T * (V2 + 1)) = T * ((q + 1) * (V2 + 1)) := by grind
    omega
  have a6 : U < (q + 1) * (V2 + 1) := Nat.lt_of_mul_lt_mul_left a5
  refine ⟨a2, (Nat.le_div_iff_mul_le hV2).2 (by omega), ?_, hq⟩
  have : U / V2 < q + 2 := by
    rw [Nat.div_lt_iff_lt_mul hV2]
    have e1 : (q + 2) * V2 = (q + 1) * V2 + V2 := by grind
    have e2 : (q + 1) * (V2 + 1) = (q + 1) * V2 + (q + 1) := by grind
    omega
  omega

/-- Taken off: as it was, or one too often. -/
theorem take_ok (M P V q t p c : Nat) (h : p + t * V = P + M * c) (hp : p < M) (hq : q = P / V) (ht : t = q) : c = 0 ∧ p = P - q * V := by
  subst ht
  have h1 : t * V ≤ P := by rw [hq]; exact Nat.div_mul_le_self P V
  rcases Nat.eq_zero_or_pos c with rfl | h0
  · exact ⟨rfl, by rw [Nat.mul_zero] at h; omega⟩
  · have : M * 1 ≤ M * c := Nat.mul_le_mul_left _ h0
    omega
theorem take_over (M P V q t p c : Nat) (h : p + t * V = P + M * c) (hV : 0 < V) (hVM : V < M) (hp : p < M) (hq : q = P / V) (ht : t = q + 1) : c = 1 ∧ ∀ p' c', p' + M * c' = p + V → p' < M → p' = P - q * V := by
  have h1 : q * V ≤ P := by rw [hq]; exact Nat.div_mul_le_self P V
  have h2 : P < q * V + V := by
    have := Nat.div_add_mod P V
    have h2 := Nat.mod_lt P hV
    rw [← hq, Nat.mul_comm] at this
    omega
  rw [ht, Nat.add_mul, Nat.one_mul] at h
  have hc : c = 1 := by
    match c with
    | 0 => rw [Nat.mul_zero] at h; omega
    | 1 => rfl
    | c + 2 =>
      have : M * (c + 2) = M * c + M + M := by grind
      omega
  subst hc
  rw [Nat.mul_one] at h
  refine ⟨rfl, fun p' c' h3 h4 => ?_⟩
  match c' with
  | 0 => rw [Nat.mul_zero] at h3; omega
  | 1 => rw [Nat.mul_one] at h3; omega
  | c + 2 =>
    have : M * (c + 2) = M * c + M + M := by grind
    omega
end Go.Proofs.YtlipjedofegciaaDoor

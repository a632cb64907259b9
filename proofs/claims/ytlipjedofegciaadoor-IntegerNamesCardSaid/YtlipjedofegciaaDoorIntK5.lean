/- The walks of layer 1: what the guess is worth. -/
import Derived.Test.YtlipjedofegciaaDoorIntK4
namespace Go.Proofs.YtlipjedofegciaaDoor
open Go Go.RowKit

theorem top3 (B a T x y z : Nat) : a + T * x + T * B * y + T * B * B * z = a + T * ((z * B + y) * B + x) := by grind
theorem top2 (B a T x y : Nat) : a + T * x + T * B * y = a + T * (y * B + x) := by grind
theorem vl_take_lt (B : Nat) (xs : List Nat) (h : ∀ d ∈ xs, d < B) (j : Nat) (hj : j ≤ xs.length) : vl B (xs.take j) < B ^ j := by
  have := vl_lt B (xs.take j) (fun d hd => h d (List.mem_of_mem_take hd))
  rwa [List.length_take, Nat.min_eq_left hj] at this
theorem vl_top3 (B : Nat) (p : List Nat) (j : Nat) (hl : p.length = j + 3) : vl B p = vl B (p.take j) + B ^ j * ((p.getD (j + 2) 0 * B + p.getD (j + 1) 0) * B + p.getD j 0) := by
  have e : vl B p = vl B (p.take (j + 3)) := by rw [List.take_of_length_le (by omega)]
  rw [e, vl_take_succ, vl_take_succ, vl_take_succ, Nat.pow_succ B (j + 1), Nat.pow_succ B j]
  exact top3 B _ _ _ _ _
theorem vl_top2 (B : Nat) (p : List Nat) (j : Nat) (hl : p.length = j + 2) : vl B p = vl B (p.take j) + B ^ j * (p.getD (j + 1) 0 * B + p.getD j 0) := by
  have e : vl B p = vl B (p.take (j + 2)) := by rw [List.take_of_length_le (by omega)]
  rw [e, vl_take_succ, vl_take_succ, Nat.pow_succ B j]
  exact top2 B _ _ _ _
theorem vl_top1 (B : Nat) (p : List Nat) (hl : p.length = 1) : vl B p = p.getD 0 0 := by
  have e : vl B p = vl B (p.take 1) := by rw [List.take_of_length_le (by omega)]
  rw [e, vl_take_succ]; simp [vl]
theorem guess_one (B P V : Nat) (hB : 0 < B) (hV : 0 < V) (hlt : P < V * B) : P * B < (V * B + 1) * B ∧ P / V ≤ P * B / (V * B) ∧ P * B / (V * B) ≤ P / V + 1 ∧ P / V < B := by
  rw [Nat.mul_div_mul_right _ _ hB]
  refine ⟨?_, Nat.le_refl _, by omega, ?_⟩
  · have : P * B < V * B * B := Nat.mul_lt_mul_of_pos_right hlt hB
    have h2 : V * B * B ≤ (V * B + 1) * B := Nat.mul_le_mul_right _ (by omega)
    omega
  · rw [Nat.div_lt_iff_lt_mul hV, Nat.mul_comm]; exact hlt
theorem guess_okB (B : Nat) (hB : 0 < B) (p ys : List Nat) (k : Nat) (hp : p.length = k + 2) (hy : ys.length = k + 1) (hpb : ∀ d ∈ p, d < B) (hyb : ∀ d ∈ ys, d < B) (hv : 1 ≤ ys.getD k 0) (hlt : vl B p < vl B ys * B) :
    (p.getD (k + 1) 0 * B + p.getD k 0) * B + low p k < (ys.getD k 0 * B + low ys k + 1) * B ∧
    vl B p / vl B ys ≤ ((p.getD (k + 1) 0 * B + p.getD k 0) * B + low p k) / (ys.getD k 0 * B + low ys k) ∧
    ((p.getD (k + 1) 0 * B + p.getD k 0) * B + low p k) / (ys.getD k 0 * B + low ys k) ≤ vl B p / vl B ys + 1 ∧
    vl B p / vl B ys < B := by
  cases k with
  | zero =>
    have e1 := vl_top2 B p 0 hp
    have e2 := vl_top1 B ys hy
    simp only [List.take_zero, vl, Nat.pow_zero, Nat.one_mul, Nat.zero_add] at e1 ⊢
    have l1 : low p 0 = 0 := by simp [low]
    have l2 : low ys 0 = 0 := by simp [low]
    rw [l1, l2, Nat.add_zero, Nat.add_zero, ← e2, ← e1]
    exact guess_one B _ _ hB (by omega) hlt
  | succ j =>
    have e1 := vl_top3 B p j hp
    have e2 := vl_top2 B ys j hy
    have l1 : low p (j + 1) = p.getD j 0 := by simp [low]
    have l2 : low ys (j + 1) = ys.getD j 0 := by simp [low]
    have b1 := vl_take_lt B p hpb j (by omega)
    have b2 := vl_take_lt B ys hyb j (by omega)
    rw [l1, l2]
    exact guess_bound B (B ^ j) _ _ _ _ _ _ (Nat.pow_pos hB) e1 e2 b1 b2 (by have : 1 * B ≤ ys.getD (j + 1) 0 * B := Nat.mul_le_mul_right _ hv; omega) hB hlt
end Go.Proofs.YtlipjedofegciaaDoor

/- The walks of layer 1: the arithmetic of bits.Div64. -/
import Derived.Test.YtlipjedofegciaaDoorIntM4
namespace Go.Proofs.YtlipjedofegciaaDoor
open Go Go.RowKit

/-- The numbers of one half of the division. -/
structure DC (U Y1 Y0 L1 Y Q : Nat) : Prop where
  y : Y = Y1 * 4294967296 + Y0
  y1 : 2147483648 ≤ Y1
  y1' : Y1 < 4294967296
  y0 : Y0 < 4294967296
  l1 : L1 < 4294967296
  u : U < Y
  q : Q = (U * 4294967296 + L1) / Y
def DInv (U Y1 Q q r : Nat) : Prop := q * Y1 + r = U ∧ Q ≤ q ∧ q ≤ 4294967297 ∧ r < 4294967296
section
variable {U Y1 Y0 L1 Y Q q r : Nat}
theorem DC.le (h : DC U Y1 Y0 L1 Y Q) : q ≤ Q ↔ q * Y ≤ U * 4294967296 + L1 := by
  rw [h.q, Nat.le_div_iff_mul_le (by have := h.y; have := h.y1; omega)]
theorem DC.mul (h : DC U Y1 Y0 L1 Y Q) : q * Y = q * Y1 * 4294967296 + q * Y0 := by
  rw [h.y, Nat.mul_add, Nat.mul_assoc]
theorem DC.small (h : DC U Y1 Y0 L1 Y Q) : Q < 4294967296 := by
  have h1 := h.u; have h2 := h.l1
  rw [h.q, Nat.div_lt_iff_lt_mul (by omega)]
  omega
theorem DC.start (h : DC U Y1 Y0 L1 Y Q) : DInv U Y1 Q (U / Y1) (U % Y1) := by
  have h1 := h.y1; have h2 := h.y1'
  have hm := Nat.div_add_mod U Y1
  have hr := Nat.mod_lt U (show 0 < Y1 by omega)
  have hq : Q ≤ U / Y1 := by
    rw [Nat.le_div_iff_mul_le (by omega)]
    have a := (h.le (q := Q)).1 (Nat.le_refl _)
    rw [h.mul] at a
    have := h.l1
    omega
  refine ⟨by rw [Nat.mul_comm]; exact hm, hq, ?_, by omega⟩
  have hu := h.u; have hy := h.y; have h0 := h.y0
  have : U / Y1 < 4294967298 := by
    rw [Nat.div_lt_iff_lt_mul (by omega)]
    omega
  omega
theorem DInv.stop (hi : DInv U Y1 Q q r) (h : DC U Y1 Y0 L1 Y Q) (h2 : q * Y0 ≤ 4294967296 * r + L1) : q = Q := by
  obtain ⟨a, b, _, _⟩ := hi
  have : q ≤ Q := by
    rw [h.le, h.mul]
    omega
  omega
theorem DInv.step (hi : DInv U Y1 Q q r) (h : DC U Y1 Y0 L1 Y Q) (ht : 4294967296 ≤ q ∨ 4294967296 * r + L1 < q * Y0) :
    1 ≤ q ∧ (r + Y1 < 4294967296 → DInv U Y1 Q (q - 1) (r + Y1)) ∧ (4294967296 ≤ r + Y1 → q - 1 = Q) := by
  obtain ⟨a, b, c, d⟩ := hi
  have hQ : Q < q := by
    rcases ht with ht | ht
    · have := h.small; omega
    · rcases Nat.lt_or_ge Q q with hl | hl
      · exact hl
      · have := h.le.1 hl
        rw [h.mul] at this
        omega
  obtain ⟨p, rfl⟩ : ∃ p, q = p + 1 := ⟨q - 1, by omega⟩
  rw [Nat.add_mul, Nat.one_mul] at a
  refine ⟨by omega, fun hl => ⟨by rw [Nat.add_sub_cancel]; omega, by omega, by omega, hl⟩, fun hl => ?_⟩
  have : p ≤ Q := by
    rw [h.le, h.mul]
    have h0 : p * Y0 ≤ 4294967296 * 4294967296 := Nat.mul_le_mul (by omega) (by have := h.y0; omega)
    omega
  omega
/-- The rest of the first half. -/
theorem DC.rest (h : DC U Y1 Y0 L1 Y Q) : Q * Y + (U * 4294967296 + L1) % Y = U * 4294967296 + L1 ∧ (U * 4294967296 + L1) % Y < Y := by
  have hm := Nat.div_add_mod (U * 4294967296 + L1) Y
  rw [← h.q, Nat.mul_comm] at hm
  exact ⟨hm, Nat.mod_lt _ (by have := h.u; omega)⟩
end
end Go.Proofs.YtlipjedofegciaaDoor

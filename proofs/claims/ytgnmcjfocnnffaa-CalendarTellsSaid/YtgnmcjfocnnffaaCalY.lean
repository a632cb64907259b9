/- Layer 4: the program's Join. -/
import Derived.Test.YtgnmcjfocnnffaaCalU
import Derived.Test.YtgnmcjfocnnffaaCalW
namespace Go.Proofs.Ytgnmcjfocnnffaa
open Go Go.RowKit

theorem val_parts {we : Int} {hs : List Int} (h : valB we hs = true) : we ≤ 126 ∧ hs.length ≤ 1000 ∧ ordB hs = true := by
  unfold valB at h
  rw [Bool.and_eq_true, Bool.and_eq_true, decide_eq_true_eq, decide_eq_true_eq] at h
  exact ⟨h.1.1, h.1.2, h.2⟩
theorem joE_bad {we1 we2 : Int} {hs1 hs2 : List Int} (h : valB we1 hs1 = false ∨ valB we2 hs2 = false) : joE we1 hs1 we2 hs2 = 8 := by
  unfold joE
  rcases h with h | h <;> rw [h] <;> simp
theorem joE_good {we1 we2 : Int} {hs1 hs2 : List Int} (h1 : valB we1 hs1 = true) (h2 : valB we2 hs2 = true) : joE we1 hs1 we2 hs2 = if orW we1 we2 = 127 then 6 else if 1000 < (uniL hs1 hs2).length then 4 else 0 := by
  unfold joE; rw [h1, h2]; rfl
theorem join_any (we1 : Int) (A1 : Option Addr) (c1 : Nat) (hs1 : List Int) (we2 : Int) (A2 : Option Addr) (c2 : Nat) (hs2 : List Int) (w : World) (h1 : CalIn w we1 A1 c1 hs1) (h2 : CalIn w we2 A2 c2 hs2) :
    JoinS we1 A1 c1 hs1 we2 A2 c2 hs2 (joW we1 hs1 we2 hs2) (joL we1 hs1 we2 hs2) (joE we1 hs1 we2 hs2) w := by
  have k1 : ∀ v, valE we1 hs1 = v → ∀ w', Below w.heap.size w w' → ChkS we1 A1 c1 hs1 v w' := fun v hv w' hw => check_any we1 A1 c1 hs1 v w' (h1.below hw) hv
  have k2 : ∀ v, valE we2 hs2 = v → ∀ w', Below w.heap.size w w' → ChkS we2 A2 c2 hs2 v w' := fun v hv w' hw => check_any we2 A2 c2 hs2 v w' (h2.below hw) hv
  cases v1 : valB we1 hs1 with
  | false =>
    have e : joE we1 hs1 we2 hs2 = 8 := joE_bad (.inl v1)
    unfold joW joL; rw [e]
    exact join_bad1 we1 A1 c1 hs1 we2 A2 c2 hs2 w h1 h2 (k1 8 (by unfold valE; rw [v1]; rfl))
  | true =>
    have hk1 := k1 0 (by unfold valE; rw [v1]; rfl)
    cases v2 : valB we2 hs2 with
    | false =>
      have e : joE we1 hs1 we2 hs2 = 8 := joE_bad (.inr v2)
      unfold joW joL; rw [e]
      exact join_bad2 we1 A1 c1 hs1 we2 A2 c2 hs2 w h1 h2 hk1 (k2 8 (by unfold valE; rw [v2]; rfl))
    | true =>
      have hk2 := k2 0 (by unfold valE; rw [v2]; rfl)
      obtain ⟨_, l1, _⟩ := val_parts v1
      obtain ⟨_, l2, _⟩ := val_parts v2
      have hb := orW_bits we1 we2 h1.w0 h1.w1 h2.w0 h2.w1
      have hu : ∀ w', Below w.heap.size w w' → UniS A1 c1 hs1 A2 c2 hs2 (uniL hs1 hs2) w' := fun w' hw => union_any A1 A2 c1 c2 hs1 hs2 w' (h1.rd.below hw) (h2.rd.below hw) h1.nn h2.nn l1 l2
      have e := joE_good v1 v2
      by_cases hW : orW we1 we2 = 127
      · rw [if_pos hW] at e
        unfold joW joL; rw [e]
        exact join_none we1 A1 c1 hs1 we2 A2 c2 hs2 _ w h1 h2 hk1 hk2 hb hW
      · rw [if_neg hW] at e
        by_cases hl : 1000 < (uniL hs1 hs2).length
        · rw [if_pos hl] at e
          unfold joW joL; rw [e]
          exact join_many we1 A1 c1 hs1 we2 A2 c2 hs2 _ _ w h1 h2 hk1 hk2 hu hb hW (by omega)
        · rw [if_neg hl] at e
          unfold joW joL; rw [e, if_pos rfl, if_pos rfl]
          exact join_ok we1 A1 c1 hs1 we2 A2 c2 hs2 _ _ w h1 h2 hk1 hk2 hu hb hW (by omega)
section
variable {we1 : Int} {A1 : Option Addr} {c1 : Nat} {hs1 : List Int} {we2 : Int} {A2 : Option Addr} {c2 : Nat} {hs2 : List Int}
theorem jo_bd {w : World} (h1 : CalIn w we1 A1 c1 hs1) (h2 : CalIn w we2 A2 c2 hs2) : 0 ≤ joW we1 hs1 we2 hs2 ∧ joW we1 hs1 we2 hs2 ≤ 255 ∧ (joL we1 hs1 we2 hs2).length ≤ 9223372036854775807 := by
  unfold joW joL
  split
  · next h =>
    have : orW we1 we2 ≤ 255 := by
      unfold orW
      have : we1.toNat ||| we2.toNat < 2 ^ 8 := Nat.or_lt_two_pow (by have := h1.w1; omega) (by have := h2.w1; omega)
      omega
    refine ⟨by unfold orW; omega, this, ?_⟩
    unfold joE at h
    split at h
    · split at h
      · cases h
      · split at h
        · cases h
        · omega
    · cases h
  · exact ⟨by omega, by omega, by simp⟩
end
end Go.Proofs.Ytgnmcjfocnnffaa

/- Layer 4: the reference's Join. -/
import Derived.Test.YtgnmcjfocnnffaaCalZ2
namespace Go.Proofs.Ytgnmcjfocnnffaa
open Go Go.RowKit

theorem rjoin_any (we1 : Int) (A1 : Option Addr) (c1 : Nat) (hs1 : List Int) (we2 : Int) (A2 : Option Addr) (c2 : Nat) (hs2 : List Int) (w : World) (h1 : CalIn w we1 A1 c1 hs1) (h2 : CalIn w we2 A2 c2 hs2) :
    RJoS we1 A1 c1 hs1 we2 A2 c2 hs2 (joW we1 hs1 we2 hs2) (joL we1 hs1 we2 hs2) (joE we1 hs1 we2 hs2) w := by
  have k1 : ∀ v, valB we1 hs1 = v → ∀ w', Below w.heap.size w w' → ValS we1 A1 c1 hs1 v w' := fun v hv w' hw => valid_any we1 A1 c1 hs1 v w' (h1.below hw) hv
  have k2 : ∀ v, valB we2 hs2 = v → ∀ w', Below w.heap.size w w' → ValS we2 A2 c2 hs2 v w' := fun v hv w' hw => valid_any we2 A2 c2 hs2 v w' (h2.below hw) hv
  cases v1 : valB we1 hs1 with
  | false =>
    have e : joE we1 hs1 we2 hs2 = 8 := joE_bad (.inl v1)
    unfold joW joL; rw [e]
    exact rjoin_bad1 we1 A1 c1 hs1 we2 A2 c2 hs2 w h1 h2 (k1 _ v1)
  | true =>
    cases v2 : valB we2 hs2 with
    | false =>
      have e : joE we1 hs1 we2 hs2 = 8 := joE_bad (.inr v2)
      unfold joW joL; rw [e]
      exact rjoin_bad2 we1 A1 c1 hs1 we2 A2 c2 hs2 w h1 h2 (k1 _ v1) (k2 _ v2)
    | true =>
      obtain ⟨x1, l1, o1⟩ := val_parts v1
      obtain ⟨x2, l2, o2⟩ := val_parts v2
      have e := joE_good v1 v2
      by_cases hW : orW we1 we2 = 127
      · rw [if_pos hW] at e
        unfold joW joL; rw [e]
        exact rjoin_none we1 A1 c1 hs1 we2 A2 c2 hs2 w h1 h2 x1 x2 (k1 _ v1) (k2 _ v2) hW
      · rw [if_neg hW] at e
        refine rjoin_merge we1 A1 c1 hs1 we2 A2 c2 hs2 w h1 h2 x1 x2 (k1 _ v1) (k2 _ v2) hW o1 o2 l1 l2 _ _ _ ?_
        by_cases hl : 1000 < (uniL hs1 hs2).length
        · rw [if_pos hl] at e
          exact .inl ⟨hl, by unfold joW; rw [e]; rfl, by unfold joL; rw [e]; rfl, e⟩
        · rw [if_neg hl] at e
          exact .inr ⟨by omega, by unfold joW; rw [e, if_pos rfl], by unfold joL; rw [e, if_pos rfl], e⟩
end Go.Proofs.Ytgnmcjfocnnffaa

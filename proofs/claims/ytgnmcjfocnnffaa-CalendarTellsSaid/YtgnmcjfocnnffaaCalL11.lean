/- The law CalendarTells. -/
import Derived.Test.YtgnmcjfocnnffaaCalL1
namespace Go.Proofs.Ytgnmcjfocnnffaa
open Go Go.RowKit

theorem tells_law (we1 : Int) (A1 : Option Addr) (c1 : Nat) (hs1 : List Int) (we2 : Int) (A2 : Option Addr) (c2 : Nat) (hs2 : List Int) (day : Int) (w : World) (h1 : CalIn w we1 A1 c1 hs1) (h2 : CalIn w we2 A2 c2 hs2) :
    Calls Try.prog 3 #[.agg #[.int .u8 we1, .slice A1 hs1.length c1], .agg #[.int .u8 we2, .slice A2 hs2.length c2], .int .i64 day] w fun e w' => e = .returned (.bool true) ∧ Below w.heap.size w w' := by
  have hg1 : ∀ b, grtB hs1 = b → ∀ w', Below w.heap.size w w' → GrtS' we1 A1 c1 hs1 b w' := fun b hb w' hw => great_any we1 A1 c1 hs1 b w' (h1.below hw) hb
  have hg2 : ∀ b, grtB hs2 = b → ∀ w', Below w.heap.size w w' → GrtS' we2 A2 c2 hs2 b w' := fun b hb w' hw => great_any we2 A2 c2 hs2 b w' (h2.below hw) hb
  cases g1 : grtB hs1 with
  | true => exact tells_g1 we1 A1 c1 hs1 we2 A2 c2 hs2 day w h1 h2 (hg1 true g1)
  | false =>
    cases g2 : grtB hs2 with
    | true => exact tells_g2 we1 A1 c1 hs1 we2 A2 c2 hs2 day w h1 h2 (hg1 false g1) (hg2 true g2)
    | false =>
      have hl : hs1.length ≤ 1100 := by
        unfold grtB at g1
        rw [Bool.or_eq_false_iff, decide_eq_false_iff_not] at g1
        omega
      obtain ⟨x, hx⟩ : ∃ x, (chkE we1 hs1 [day] = 0 ∧ bizB we1 hs1 day = x) ∨ (chkE we1 hs1 [day] ≠ 0 ∧ x = false) := by
        by_cases h : chkE we1 hs1 [day] = 0
        · exact ⟨_, .inl ⟨h, rfl⟩⟩
        · exact ⟨_, .inr ⟨h, rfl⟩⟩
      have sm : ∀ (W : Int) (L : List Int) w' A c A' c', CalIn w' W A c L → CalIn w' W A' c' L → SmeS' W A c L W A' c' L true w' := fun W L w' A c A' c' k1 k2 => same_any W A c L W A' c' L true w' k1 k2 (by unfold samB; simp)
      obtain ⟨b1, b2, b3⟩ := jo_bd h1 h2
      refine tells_main we1 A1 c1 hs1 we2 A2 c2 hs2 day x (chkE we1 hs1 [day]) (joW we1 hs1 we2 hs2) (joL we1 hs1 we2 hs2) (joE we1 hs1 we2 hs2) (valE we1 hs1) (valB we1 hs1) w h1 h2 hl b1 b2 b3 (hg1 false g1) (hg2 false g2)
        (fun w' hw => business_any we1 A1 c1 hs1 day x _ w' (h1.below hw) rfl hx) (fun w' hw => refBus_any we1 A1 c1 hs1 day x _ w' (h1.below hw) rfl hx)
        (fun w' hw => join_any we1 A1 c1 hs1 we2 A2 c2 hs2 w' (h1.below hw) (h2.below hw)) (fun w' hw => rjoin_any we1 A1 c1 hs1 we2 A2 c2 hs2 w' (h1.below hw) (h2.below hw))
        (fun w' hw => check_any we1 A1 c1 hs1 _ w' (h1.below hw) rfl) (fun w' hw => valid_any we1 A1 c1 hs1 _ w' (h1.below hw) rfl) (sm _ _) (sm _ _) ?_
      unfold valE
      cases valB we1 hs1 <;> rfl
end Go.Proofs.Ytgnmcjfocnnffaa

/- The law CalendarJoins. -/
import Derived.Test.YtgnmcjfocnnffaaDoorCalL8
import Derived.Test.YtgnmcjfocnnffaaDoorCalY
namespace Go.Proofs.YtgnmcjfocnnffaaDoor
open Go Go.RowKit

section
variable {we1 : Int} {A1 : Option Addr} {c1 : Nat} {hs1 : List Int} {we2 : Int} {A2 : Option Addr} {c2 : Nat} {hs2 : List Int}
theorem jon_of {W : Int} {L : List Int} {E : Int} {w : World} (h : JoinS we1 A1 c1 hs1 we2 A2 c2 hs2 W L E w) (w0 : 0 ≤ W) (w1 : W ≤ 255) (hl : L.length ≤ 9223372036854775807) : JonS we1 A1 c1 hs1 we2 A2 c2 hs2 W L E w := by
  refine Calls.mono h ?_
  rintro x w' ⟨v, rfl, ho, hb⟩
  obtain ⟨A, c, rfl, _, hA, hn, _, _⟩ := HsA.of_own ho
  exact ⟨A, c, rfl, ⟨w0, w1, hA, hl, hn⟩, hb⟩
theorem jo_bd {w : World} (h1 : CalIn w we1 A1 c1 hs1) (h2 : CalIn w we2 A2 c2 hs2) : 0 ≤ joW we1 hs1 we2 hs2 ∧ joW we1 hs1 we2 hs2 ≤ 255 ∧ (joL we1 hs1 we2 hs2).length ≤ 9223372036854775807 := by
  unfold joW joL
  split
  · next h =>
    have : orW we1 we2 ≤ 255 := by
      unfold orW
      have : we1.toNat ||| we2.toNat < 2 ^ 8 := Nat.or_lt_two_pow (by have := h1.w1; omega) (by have := h2.w1; omega)
      omega
    refine ⟨by unfold orW; omega, this, ?_⟩
    unfold joE at h
    split at h
    · split at h
      · cases h
      · split at h
        · cases h
        · omega
    · cases h
  · exact ⟨by omega, by omega, by simp⟩
theorem jon_any (w : World) (h1 : CalIn w we1 A1 c1 hs1) (h2 : CalIn w we2 A2 c2 hs2) : JonS we1 A1 c1 hs1 we2 A2 c2 hs2 (joW we1 hs1 we2 hs2) (joL we1 hs1 we2 hs2) (joE we1 hs1 we2 hs2) w :=
  jon_of (join_any we1 A1 c1 hs1 we2 A2 c2 hs2 w h1 h2) (jo_bd h1 h2).1 (jo_bd h1 h2).2.1 (jo_bd h1 h2).2.2
end
theorem joE_comm (we1 we2 : Int) (hs1 hs2 : List Int) : joE we2 hs2 we1 hs1 = joE we1 hs1 we2 hs2 := by
  unfold joE; rw [Bool.and_comm, orW_comm we2 we1, uniL_comm hs2 hs1]
theorem joW_comm (we1 we2 : Int) (hs1 hs2 : List Int) : joW we2 hs2 we1 hs1 = joW we1 hs1 we2 hs2 := by
  unfold joW; rw [joE_comm, orW_comm we2 we1]
theorem joL_comm (we1 we2 : Int) (hs1 hs2 : List Int) : joL we2 hs2 we1 hs1 = joL we1 hs1 we2 hs2 := by
  unfold joL; rw [joE_comm, uniL_comm hs2 hs1]
theorem jo_self {we : Int} {hs : List Int} (h0 : 0 ≤ we) (h : valB we hs = true) : joE we hs we hs = 0 ∧ joW we hs we hs = we ∧ joL we hs we hs = hs := by
  obtain ⟨hw, hl, ho⟩ := val_parts h
  have e := joE_good h h
  rw [orW_self we h0, uniL_self (ordB_pair ho), if_neg (by omega), if_neg (by omega)] at e
  refine ⟨e, ?_, ?_⟩
  · unfold joW; rw [e, if_pos rfl, orW_self we h0]
  · unfold joL; rw [e, if_pos rfl, uniL_self (ordB_pair ho)]
theorem jo_good {we1 we2 : Int} {hs1 hs2 : List Int} (h0 : 0 ≤ we1) (h0' : 0 ≤ we2) (h : joE we1 hs1 we2 hs2 = 0) : valB we1 hs1 = true ∧ valB we2 hs2 = true ∧ joW we1 hs1 we2 hs2 = orW we1 we2 ∧ joL we1 hs1 we2 hs2 = uniL hs1 hs2 ∧ valB (orW we1 we2) (uniL hs1 hs2) = true := by
  cases v1 : valB we1 hs1 with
  | false => rw [joE_bad (.inl v1)] at h; cases h
  | true =>
    cases v2 : valB we2 hs2 with
    | false => rw [joE_bad (.inr v2)] at h; cases h
    | true =>
      refine ⟨rfl, rfl, by unfold joW; rw [h, if_pos rfl], by unfold joL; rw [h, if_pos rfl], ?_⟩
      rw [joE_good v1 v2] at h
      split at h
      · cases h
      · next hW =>
        split at h
        · cases h
        · next hl =>
          obtain ⟨w1, _, o1⟩ := val_parts v1
          obtain ⟨w2, _, o2⟩ := val_parts v2
          have := orW_bd we1 we2 h0 w1 h0' w2
          unfold valB
          rw [decide_eq_true (by omega), decide_eq_true (by omega), uniL_ord o1 o2]; rfl
theorem biz_join {we1 we2 : Int} {hs1 hs2 : List Int} (h0 : 0 ≤ we1) (h0' : 0 ≤ we2) (d : Int) : bizB (orW we1 we2) (uniL hs1 hs2) d = (bizB we1 hs1 d && bizB we2 hs2 d) := by
  unfold bizB
  rw [orW_off we1 we2 d h0 h0', uniL_contains]
  cases offB we1 d <;> cases offB we2 d <;> cases hs1.contains d <;> cases hs2.contains d <;> rfl

theorem joins_law (we1 : Int) (A1 : Option Addr) (c1 : Nat) (hs1 : List Int) (we2 : Int) (A2 : Option Addr) (c2 : Nat) (hs2 : List Int) (day : Int) (w : World) (h1 : CalIn w we1 A1 c1 hs1) (h2 : CalIn w we2 A2 c2 hs2) (hV : VarS w) :
    Calls Tryd.prog 9 #[.agg #[.int .u8 we1, .slice A1 hs1.length c1], .agg #[.int .u8 we2, .slice A2 hs2.length c2], .int .i64 day] w fun e w' => e = .returned (.bool true) ∧ Below w.heap.size w w' := by
  have hg1 : ∀ b, grtB hs1 = b → ∀ w', Below w.heap.size w w' → GrtS we1 A1 c1 hs1 b w' := fun b hb w' hw => great_any we1 A1 c1 hs1 b w' (h1.below hw) hb
  have hg2 : ∀ b, grtB hs2 = b → ∀ w', Below w.heap.size w w' → GrtS we2 A2 c2 hs2 b w' := fun b hb w' hw => great_any we2 A2 c2 hs2 b w' (h2.below hw) hb
  have hc : ∀ v, valE we1 hs1 = v → ∀ w', Below w.heap.size w w' → ChkS we1 A1 c1 hs1 v w' := fun v hv w' hw => check_any we1 A1 c1 hs1 v w' (h1.below hw) hv
  have j11 : ∀ w', Below w.heap.size w w' → JonS we1 A1 c1 hs1 we1 A1 c1 hs1 (joW we1 hs1 we1 hs1) (joL we1 hs1 we1 hs1) (joE we1 hs1 we1 hs1) w' := fun w' hw => jon_any w' (h1.below hw) (h1.below hw)
  have j12 : ∀ w', Below w.heap.size w w' → JonS we1 A1 c1 hs1 we2 A2 c2 hs2 (joW we1 hs1 we2 hs2) (joL we1 hs1 we2 hs2) (joE we1 hs1 we2 hs2) w' := fun w' hw => jon_any w' (h1.below hw) (h2.below hw)
  have j21 : ∀ w', Below w.heap.size w w' → JonS we2 A2 c2 hs2 we1 A1 c1 hs1 (joW we1 hs1 we2 hs2) (joL we1 hs1 we2 hs2) (joE we1 hs1 we2 hs2) w' := fun w' hw => by
    have := jon_any w' (h2.below hw) (h1.below hw)
    rwa [joE_comm, joW_comm, joL_comm] at this
  have sm : ∀ (W : Int) (L : List Int) w' A c A' c', CalIn w' W A c L → CalIn w' W A' c' L → SmeS W A c L W A' c' L true w' := fun W L w' A c A' c' k1 k2 => same_any W A c L W A' c' L true w' k1 k2 (by unfold samB; simp)
  cases g1 : grtB hs1 with
  | true => exact joins_g1 we1 A1 c1 hs1 we2 A2 c2 hs2 day w h1 h2 hV (hg1 true g1)
  | false =>
    cases g2 : grtB hs2 with
    | true => exact joins_g2 we1 A1 c1 hs1 we2 A2 c2 hs2 day w h1 h2 hV (hg1 false g1) (hg2 true g2)
    | false =>
      cases v1 : valB we1 hs1 with
      | false =>
        have e11 : joE we1 hs1 we1 hs1 = 8 := joE_bad (.inl v1)
        have e12 : joE we1 hs1 we2 hs2 = 8 := joE_bad (.inl v1)
        have z11 : joW we1 hs1 we1 hs1 = 0 ∧ joL we1 hs1 we1 hs1 = [] := by unfold joW joL; rw [e11]; exact ⟨rfl, rfl⟩
        have z12 : joW we1 hs1 we2 hs2 = 0 ∧ joL we1 hs1 we2 hs2 = [] := by unfold joW joL; rw [e12]; exact ⟨rfl, rfl⟩
        rw [e11, z11.1, z11.2] at j11
        rw [e12, z12.1, z12.2] at j12 j21
        exact joins_bad we1 A1 c1 hs1 we2 A2 c2 hs2 day [] w h1 h2 hV (hg1 false g1) (hg2 false g2) j11 (hc 8 (by unfold valE; rw [v1]; rfl)) j12 j21 (sm 0 []) (by decide)
      | true =>
        obtain ⟨e11, z11, y11⟩ := jo_self h1.w0 v1
        rw [e11, z11, y11] at j11
        have hc0 := hc 0 (by unfold valE; rw [v1]; rfl)
        have hs0 : ∀ w' A c, CalIn w' we1 A c hs1 → CalIn w' we1 A1 c1 hs1 → SmeS we1 A c hs1 we1 A1 c1 hs1 true w' := fun w' A c k1 k2 => sm we1 hs1 w' A c A1 c1 k1 k2
        by_cases hE : joE we1 hs1 we2 hs2 = 0
        · obtain ⟨_, v2, z12, y12, v3⟩ := jo_good h1.w0 h2.w0 hE
          rw [hE, z12, y12] at j12 j21
          have hb : ∀ (we : Int) (A : Option Addr) (c : Nat) (hs : List Int) (b : Bool) w', CalIn w' we A c hs → valB we hs = true → (dayB day && bizB we hs day) = b → BusS we A c hs day b (if dayB day then 0 else 2) w' := fun we A c hs b w' k hv hx => by
            refine business_any we A c hs day b _ w' k (chk_one day hv) ?_
            cases hd : dayB day with
            | true => rw [hd] at hx; exact .inl ⟨rfl, by simpa using hx⟩
            | false => rw [hd] at hx; exact .inr ⟨by decide, by simpa using hx.symm⟩
          have b1 : ∀ b, (dayB day && bizB we1 hs1 day) = b → ∀ w', Below w.heap.size w w' → BusS we1 A1 c1 hs1 day b (if dayB day then 0 else 2) w' := fun b hx w' hw => hb we1 A1 c1 hs1 b w' (h1.below hw) v1 hx
          have b2 : ∀ b, (dayB day && bizB we2 hs2 day) = b → ∀ w', Below w.heap.size w w' → BusS we2 A2 c2 hs2 day b (if dayB day then 0 else 2) w' := fun b hx w' hw => hb we2 A2 c2 hs2 b w' (h2.below hw) v2 hx
          have b3 : ∀ x y, (dayB day && bizB we1 hs1 day) = x → (dayB day && bizB we2 hs2 day) = y → ∀ w' A c, CalIn w' (orW we1 we2) A c (uniL hs1 hs2) → BusS (orW we1 we2) A c (uniL hs1 hs2) day (x && y) (if dayB day then 0 else 2) w' := fun x y hx hy w' A c k => hb _ A c _ _ w' k v3 (by
            rw [biz_join h1.w0 h2.w0, ← hx, ← hy]
            cases dayB day <;> simp)
          cases hx : (dayB day && bizB we1 hs1 day) with
          | true =>
            cases hy : (dayB day && bizB we2 hs2 day) with
            | true => exact joins_tt we1 A1 c1 hs1 we2 A2 c2 hs2 day _ _ _ w h1 h2 hV (hg1 false g1) (hg2 false g2) j11 hc0 hs0 j12 j21 (sm _ _) (b1 _ hx) (b2 _ hy) (b3 _ _ hx hy)
            | false => exact joins_tf we1 A1 c1 hs1 we2 A2 c2 hs2 day _ _ _ w h1 h2 hV (hg1 false g1) (hg2 false g2) j11 hc0 hs0 j12 j21 (sm _ _) (b1 _ hx) (b2 _ hy) (b3 _ _ hx hy)
          | false =>
            cases hy : (dayB day && bizB we2 hs2 day) with
            | true => exact joins_ft we1 A1 c1 hs1 we2 A2 c2 hs2 day _ _ _ w h1 h2 hV (hg1 false g1) (hg2 false g2) j11 hc0 hs0 j12 j21 (sm _ _) (b1 _ hx) (b2 _ hy) (b3 _ _ hx hy)
            | false => exact joins_ff we1 A1 c1 hs1 we2 A2 c2 hs2 day _ _ _ w h1 h2 hV (hg1 false g1) (hg2 false g2) j11 hc0 hs0 j12 j21 (sm _ _) (b1 _ hx) (b2 _ hy) (b3 _ _ hx hy)
        · have z12 : joW we1 hs1 we2 hs2 = 0 ∧ joL we1 hs1 we2 hs2 = [] := by unfold joW joL; rw [if_neg hE, if_neg hE]; exact ⟨rfl, rfl⟩
          rw [z12.1, z12.2] at j12 j21
          exact joins_none we1 A1 c1 hs1 we2 A2 c2 hs2 day _ [] w h1 h2 hV (hg1 false g1) (hg2 false g2) j11 hc0 hs0 j12 j21 (sm 0 []) hE (by decide)
end Go.Proofs.YtgnmcjfocnnffaaDoor

/- Layer 6: the law ScheduleStubs. -/
import Derived.Test.YtfheeipggedaiaaDoorScZ
import Derived.Test.YtfheeipggedaiaaDoorScL6
import Derived.Test.YtfheeipggedaiaaDoorScL7
namespace Go.Proofs.YtfheeipggedaiaaDoor
open Go Go.RowKit

section
variable (st en mo : Int) (bk la : Bool) (sb ro we : Int) (A : Option Addr) (c : Nat) (hs : List Int)
theorem rdN6_leS (y m d : Int) : rdN6 st en mo bk la sb y m d ≤ regN st en mo bk la y m d := by unfold rdN6; split <;> omega
theorem schB_01 : schB st en mo 1 ro we hs = schB st en mo 0 ro we hs := by unfold schB; rfl
theorem stubs_law6 (w : World) (h : CalIn w we A c hs) (hV : VarD w) :
    Calls Tryd.prog 8 #[.agg #[.int .i64 st, .int .i64 en, .int .i64 mo, .bool bk, .bool la, .int .u8 sb, .int .u8 ro, .int .u8 we, .slice A hs.length c]] w (OkS w) := by
  have H0 := fun W (hW : Below w.heap.size w W) => alive_any6 W (hV.below hW)
  cases hg : grtB hs
  · obtain ⟨y, m, d, hD⟩ := tri_ex st en mo bk 0 ro we hs
    have hD1 : schB st en mo 1 ro we hs = true → IsDate y m d (bsd st en bk) := by rw [schB_01]; exact hD
    have H1 := fun W (hW : Below w.heap.size w W) => pdates_any st en mo bk la 0 ro we A c hs y m d W (h.below hW) (hV.below hW) hD
    have H2 := fun W (hW : Below w.heap.size w W) => pdates_any st en mo bk la 1 ro we A c hs y m d W (h.below hW) (hV.below hW) hD1
    have hn0 : rdN6 st en mo bk la 0 y m d = regN st en mo bk la y m d := by unfold rdN6; rw [if_neg (by simp)]
    by_cases h0 : rdE st en mo bk la 0 ro we hs y m d = 0
    · rw [h0] at H1
      obtain ⟨hv, hL, hn, hR100, hR⟩ := rdL_ok st en mo bk la 0 ro we hs y m d h0
      obtain ⟨-, s0, e0, hse, m0, -, -⟩ := (schB_iff st en mo 0 ro we hs).1 hv
      have hd := hD hv
      have hb : bsd st en bk ≤ 99999 := by unfold bsd; split <;> omega
      rw [hn0] at hL hn
      have h1le := rdN6_leS st en mo bk la 1 y m d
      have h01 : rdE st en mo bk la 1 ro we hs y m d = 0 := by
        unfold rdE
        rw [schB_01, hv, if_pos rfl, if_neg (by omega), if_neg (by omega)]
      rw [h01] at H2
      obtain ⟨-, hL1, -, -, -⟩ := rdL_ok st en mo bk la 1 ro we hs y m d h01
      rw [hL] at H1
      rw [hL1] at H2
      have HA : ∀ W, Below w.heap.size w W → Calls Tryd.prog 25 #[.int .i64 (bsd st en bk), .int .i64 (mth mo bk ((regN st en mo bk la y m d + 1 : Nat) : Int)), .bool la] W fun x w' => x = .returned (.tuple #[.int .i64 (stpV mo bk la y m d (regN st en mo bk la y m d + 1)), .int .i64 (stpE mo bk la y m d (regN st en mo bk la y m d + 1))]) ∧ W = w' :=
        fun W hW => progAddM la y m d _ _ hd hb W (hV.below hW)
      have hst : stubB st en mo bk la y m d = (decide (stpE mo bk la y m d (regN st en mo bk la y m d + 1) ≠ 0) || decide (stpV mo bk la y m d (regN st en mo bk la y m d + 1) ≠ bsd en st bk)) := rfl
      have hr1 : rdN6 st en mo bk la 1 y m d = if 0 < regN st en mo bk la y m d ∧ stubB st en mo bk la y m d = true then regN st en mo bk la y m d - 1 else regN st en mo bk la y m d := by unfold rdN6; simp
      generalize rdN6 st en mo bk la 1 y m d = n1 at *
      generalize regN st en mo bk la y m d = R at *
      generalize stpE mo bk la y m d (R + 1) = e at *
      generalize stpV mo bk la y m d (R + 1) = V at *
      generalize stpV mo bk la y m d = v at *
      generalize stubB st en mo bk la y m d = z at *
      have e1 : ((R + 1 : Nat) : Int) = (R : Int) + 1 := by omega
      rw [e1] at HA
      have hlen := dtL_len bk v R st en
      by_cases hcase : R = 0 ∨ z = false
      · have hn1 : n1 = R := by
          rw [hr1]
          rcases hcase with rfl | rfl
          · rw [if_neg (by omega)]
          · rw [if_neg (by simp)]
        rw [hn1] at H2
        have hc : ((R : Int) == 0) = true ∨ ((R : Int) == 0) = false ∧ e = 0 ∧ bsd en st bk = V := by
          by_cases hR0 : R = 0
          · subst hR0; exact .inl rfl
          · rcases hcase with hz | hz
            · exact absurd hz hR0
            · rw [hz] at hst
              have := hst.symm
              rw [Bool.or_eq_false_iff, decide_eq_false_iff_not, decide_eq_false_iff_not] at this
              exact .inr ⟨by rw [beq_eq_false_iff_ne]; omega, Decidable.not_not.1 this.1, (Decidable.not_not.1 this.2).symm⟩
        cases bk
        · exact stubs_same0 st en mo la sb ro we A c hs R hn V e _ _ hlen rfl hc m0.1 m0.2 w h hg H0 H1 H2 HA
        · exact stubs_same1 st en mo la sb ro we A c hs R hn V e _ _ hlen rfl hc m0.1 m0.2 w h hg H0 H1 H2 HA
      · have hR0 : 0 < R := by
          rcases Nat.eq_zero_or_pos R with g | g
          · exact absurd (.inl g) hcase
          · exact g
        have hz : z = true := by
          cases z
          · exact absurd (.inr rfl) hcase
          · rfl
        have hn1 : n1 = R - 1 := by rw [hr1, if_pos ⟨hR0, hz⟩]
        rw [hn1] at H2
        have hc : (e == 0) = false ∨ e = 0 ∧ (V == bsd en st bk) = false := by
          rw [hz] at hst
          by_cases he : e = 0
          · refine .inr ⟨he, ?_⟩
            rw [beq_eq_false_iff_ne]
            intro hV'
            rw [he, hV'] at hst
            simp at hst
          · exact .inl (by rw [beq_eq_false_iff_ne]; exact he)
        obtain ⟨R', rfl⟩ : ∃ R', R = R' + 1 := ⟨R - 1, by omega⟩
        rw [Nat.add_sub_cancel] at H2
        have hab := dtL_long bk v R' st en
        have hlb := dtL_len bk v R' st en
        cases bk
        · exact stubs_diff0 st en mo la sb ro we A c hs (R' + 1) hn V e _ _ hlen hR0 hab (by rw [hlb]) hc m0.1 m0.2 w h hg H0 H1 H2 HA
        · exact stubs_diff1 st en mo la sb ro we A c hs (R' + 1) hn V e _ _ hlen hR0 hab (by rw [hlb]) hc m0.1 m0.2 w h hg H0 H1 H2 HA
    · have l1 := rdL_le st en mo bk la 0 ro we hs y m d
      have l2 := rdL_le st en mo bk la 1 ro we hs y m d
      refine stubs_err st en mo bk la sb ro we A c hs _ _ _ _ (by rw [bne_iff_ne]; exact h0) (by rw [beq_eq_false_iff_ne]; exact h0) _ rfl (by omega) (by omega) w h hg H0 H1 H2
  · exact stubs_great st en mo bk la sb ro we A c hs w h hg H0
end
end Go.Proofs.YtfheeipggedaiaaDoor

/- Layer 6: the program's walks: datesOf assembled, Dates. -/
import Derived.Test.YtfheeipggedaiaaDoorScS

namespace Go.Proofs.YtfheeipggedaiaaDoor
open Go Go.RowKit

section
variable (st en mo : Int) (bk la : Bool) (sb ro we : Int) (A : Option Addr) (c : Nat) (hs : List Int) (y m d : Int)
theorem progAddM (b n : Int) (h : IsDate y m d b) (hb : b ≤ 99999) (W : World) (hV : VarD W) : Calls Tryd.prog 25 #[.int .i64 b, .int .i64 n, .bool la] W fun x w' => x = .returned (.tuple #[.int .i64 (smV y m d n la), .int .i64 (smE y m d n la)]) ∧ W = w' := by
  unfold smV smE
  by_cases hn : -4000 ≤ n ∧ n ≤ 4000
  · rw [if_pos hn, if_pos hn]; exact addMonths_in y m d b n la h hb hn.1 hn.2 W hV
  · rw [if_neg hn, if_neg hn]; exact addMonths_out b n la (by omega) W
def sgn6 : Int := if bk then -mo else mo
theorem mth_sgn (k : Nat) : (k : Int) * sgn6 mo bk = mth mo bk k := by
  unfold sgn6 mth
  cases bk
  · rfl
  · simp only [if_true]; rw [Int.mul_neg, Int.neg_mul]
theorem regular_prog (m0 : 1 ≤ mo) (m1 : mo ≤ 1200) (hse : st < en) (h : IsDate y m d (bsd st en bk)) (hb : bsd st en bk ≤ 99999) (w : World) (hV : VarD w) (W : World) (hW : Below w.heap.size w W) :
    Calls Tryd.prog 47 #[.agg #[.int .i64 st, .int .i64 en, .int .i64 mo, .bool bk, .bool la, .int .u8 sb, .int .u8 ro, .int .u8 we, .slice A hs.length c], .int .i64 (bsd st en bk), .int .i64 (bsd en st bk), .int .i64 (sgn6 mo bk)] W (RdR (regU st en mo bk la y m d) (stubU st en mo bk la y m d) (stpV mo bk la y m d) W) := by
  obtain ⟨r0, r1, r2, -, -⟩ := regU_spec (la := la) m0 hse h hb
  have e0 := (stp_zero (mo := mo) (la := la) h hb).1
  have hfar : ∀ k, 4000 < k → stpE mo bk la y m d k ≠ 0 := fun k g => stpE_far m0 g
  have hat : ∀ x, atX bk (bsd en st bk) x = atF st en bk x := by intro x; cases bk <;> rfl
  have hz : (decide (stpE mo bk la y m d (regU st en mo bk la y m d + 1) ≠ 0) || decide (stpV mo bk la y m d (regU st en mo bk la y m d + 1) ≠ bsd en st bk)) = stubU st en mo bk la y m d := rfl
  have HA : ∀ k : Nat, k ≤ 4001 → ∀ W2, Below W.heap.size W W2 → Calls Tryd.prog 25 #[.int .i64 (bsd st en bk), .int .i64 (k * sgn6 mo bk), .bool la] W2 fun x w' => x = .returned (.tuple #[.int .i64 (stpV mo bk la y m d k), .int .i64 (stpE mo bk la y m d k)]) ∧ W2 = w' := by
    intro k _ W2 h2
    rw [mth_sgn]
    exact progAddM la y m d _ _ h hb W2 ((hV.below hW).below h2)
  generalize stubU st en mo bk la y m d = z at *
  generalize regU st en mo bk la y m d = R at *
  generalize stpE mo bk la y m d = e at *
  generalize stpV mo bk la y m d = v at *
  obtain ⟨K, hK⟩ : ∃ K, K = R + 1 ∧ e (R + 1) ≠ 0 ∨ R + 1 < K ∧ K ≤ 4001 ∧ (∀ k, k < K → e k = 0) ∧ e K ≠ 0 := by
    by_cases hl : e (R + 1) = 0
    · obtain ⟨-, b, c', d'⟩ := reg_spec (fun k => decide (e k = 0)) 4001 0
      generalize reg (fun k => decide (e k = 0)) 4001 0 = K at *
      have hall : ∀ j, j ≤ K → e j = 0 := fun j hj => by
        rcases Nat.eq_zero_or_pos j with rfl | g
        · exact e0
        · simpa using c' j g hj
      have hK4 : K ≤ 4000 := by
        rcases Nat.lt_or_ge 4000 K with g | g
        · exact absurd (hall K (Nat.le_refl _)) (hfar K g)
        · exact g
      have hKn : e (K + 1) ≠ 0 := by simpa using d' (by omega)
      refine ⟨K + 1, .inr ⟨?_, by omega, fun k hk => hall k (by omega), hKn⟩⟩
      rcases Nat.lt_or_ge (R + 1) (K + 1) with g | g
      · exact g
      · rcases Nat.eq_or_lt_of_le g with g | g
        · rw [g] at hKn; exact absurd hl hKn
        · exact absurd (r1 (K + 1) (by omega)).1 hKn
    · exact ⟨R + 1, .inl ⟨rfl, hl⟩⟩
  have hs0 : -1200 ≤ sgn6 mo bk ∧ sgn6 mo bk ≤ 1200 := by unfold sgn6; split <;> omega
  exact callsIn_wide.1 (regularDays_in st en mo bk la sb ro we A c hs.length _ _ _ v e R r0 hs0.1 hs0.2 W (fun k hk => (r1 k hk).1) (fun k hk => by rw [hat]; exact (r1 k hk).2) (fun g => by rw [hat]; exact r2 g) K hK z hz HA)
theorem datesOf_any (m0 : 1 ≤ mo) (m1 : mo ≤ 1200) (hse : st < en) (h : IsDate y m d (bsd st en bk)) (hb : bsd st en bk ≤ 99999) (w : World) (hV : VarD w) :
    Calls Tryd.prog 26 #[.agg #[.int .i64 st, .int .i64 en, .int .i64 mo, .bool bk, .bool la, .int .u8 sb, .int .u8 ro, .int .u8 we, .slice A hs.length c]] w (LstR (dtL bk (stpV mo bk la y m d) (rdU st en mo bk la sb y m d) st en) w) := by
  have H := fun W hW => regular_prog st en mo bk la sb ro we A c hs y m d m0 m1 hse h hb w hV W hW
  have hR := (regU_spec (la := la) m0 hse h hb).1
  have hv0 := (stp_zero (mo := mo) (la := la) h hb).2
  have hL : ∀ n, (if bk then (cntL (stpV mo bk la y m d) (n + 1) ++ [bsd en st bk]).reverse else cntL (stpV mo bk la y m d) (n + 1) ++ [bsd en st bk]) = dtL bk (stpV mo bk la y m d) n st en := by
    intro n
    cases bk
    · exact dtL_fwd _ _ _ _ hv0
    · exact dtL_bwd _ _ _ _ hv0
  generalize hn : rdU st en mo bk la sb y m d = n
  unfold rdU at hn
  rw [← hL n]
  generalize regU st en mo bk la y m d = R at *
  generalize stpV mo bk la y m d = v at *
  cases hz : stubU st en mo bk la y m d
  · rw [hz] at H
    rw [hz, if_neg (by simp)] at hn; subst hn
    cases bk
    · exact datesOf_0a st en mo la sb ro we A c hs.length v R hR m0 m1 w H
    · exact datesOf_1a st en mo la sb ro we A c hs.length v R hR m0 m1 w H
  · rw [hz] at H
    by_cases h1 : sb = 1
    · subst h1
      cases R with
      | zero =>
        rw [hz, if_neg (by simp)] at hn; subst hn
        cases bk
        · exact datesOf_0c st en mo la ro we A c hs.length v m0 m1 w H
        · exact datesOf_1c st en mo la ro we A c hs.length v m0 m1 w H
      | succ R =>
        rw [hz, if_pos ⟨Nat.succ_pos R, rfl, rfl⟩] at hn; subst hn
        cases bk
        · exact datesOf_0d st en mo la ro we A c hs.length v R (by omega) m0 m1 w H
        · exact datesOf_1d st en mo la ro we A c hs.length v R (by omega) m0 m1 w H
    · rw [if_neg (fun g => h1 g.2.1)] at hn; subst hn
      have h2 : (sb == 1) = false := by rw [beq_eq_false_iff_ne]; exact h1
      cases bk
      · exact datesOf_0b st en mo la sb ro we A c hs.length v R hR m0 m1 h2 w H
      · exact datesOf_1b st en mo la sb ro we A c hs.length v R hR m0 m1 h2 w H
end
end Go.Proofs.YtfheeipggedaiaaDoor

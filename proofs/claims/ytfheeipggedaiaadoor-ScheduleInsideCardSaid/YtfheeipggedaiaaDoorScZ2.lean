/- Layer 6: the law ScheduleInside. -/
import Derived.Test.YtfheeipggedaiaaDoorScZ
import Derived.Test.YtfheeipggedaiaaDoorScL2
namespace Go.Proofs.YtfheeipggedaiaaDoor
open Go Go.RowKit

section
variable (st en mo : Int) (bk la : Bool) (sb ro we : Int) (A : Option Addr) (c : Nat) (hs : List Int) (y m d : Int)
theorem fd_cases (h0 : rdE st en mo bk la sb ro we hs y m d = 0) (day : Int) :
    (∃ i, i ≤ rdN6 st en mo bk la sb y m d ∧ dtI bk (stpV mo bk la y m d) (rdN6 st en mo bk la sb y m d) st en i ≤ day ∧ day < dtI bk (stpV mo bk la y m d) (rdN6 st en mo bk la sb y m d) st en (i + 1) ∧ st ≤ day ∧ day < en ∧ fdV st en mo bk la sb ro we hs y m d day = i ∧ fdE st en mo bk la sb ro we hs y m d day = 0) ∨
    ((day < st ∨ st ≤ day ∧ en ≤ day) ∧ fdV st en mo bk la sb ro we hs y m d day = 0 ∧ fdE st en mo bk la sb ro we hs y m d day ≠ 0) := by
  obtain ⟨hv, hL, hn, -, hR⟩ := rdL_ok st en mo bk la sb ro we hs y m d h0
  obtain ⟨-, s0, e0, hse, -, -, -⟩ := (schB_iff st en mo sb ro we hs).1 hv
  unfold fdV fdE
  rw [if_pos h0, if_pos h0]
  cases hd : dayB day
  · refine .inr ⟨?_, rfl, by simp⟩
    have : ¬ (0 ≤ day ∧ day ≤ 99999) := fun g => by rw [(dayB_iff day).2 g] at hd; cases hd
    omega
  · have hF := fnd_of (rdL st en mo bk la sb ro we hs y m d) day
    simp only [if_true]
    generalize fnV (rdL st en mo bk la sb ro we hs y m d) day = v at *
    generalize fnE (rdL st en mo bk la sb ro we hs y m d) day = e at *
    rw [hL] at hF
    generalize rdN6 st en mo bk la sb y m d = n at *
    generalize stpV mo bk la y m d = f at *
    have hg : ∀ j, j < n + 2 → (dtL bk f n st en).getD j 0 = dtI bk f n st en j := fun j hj => dtL_get _ _ _ _ _ hj
    by_cases hin : st ≤ day ∧ day < en
    · obtain ⟨i, hi, h1, h2⟩ := dt_find bk f n st en hin.1 hin.2
      obtain ⟨rfl, rfl⟩ := hF.at' i (by rw [dtL_len]; omega) (fun j hj hp => by
        unfold perB at hp
        rw [hg j (by omega), hg (j + 1) (by omega)] at hp
        have := hR.one (by omega) hi hp ⟨h1, h2⟩
        omega) (by unfold perB; rw [hg i (by omega), hg (i + 1) (by omega)]; exact ⟨h1, h2⟩)
      exact .inl ⟨i, hi, h1, h2, hin.1, hin.2, rfl, rfl⟩
    · obtain ⟨rfl, rfl⟩ := hF.no (fun j hj hp => by
        rw [dtL_len] at hj
        unfold perB at hp
        rw [hg j (by omega), hg (j + 1) (by omega)] at hp
        have a := hR.in_all (i := j) (by omega)
        have b := hR.in_all (i := j + 1) (by omega)
        omega)
      exact .inr ⟨by omega, rfl, by decide⟩
end
section
variable (st en mo : Int) (bk la : Bool) (sb ro we : Int) (A : Option Addr) (c : Nat) (hs : List Int)
theorem inside_law6 (day : Int) (w : World) (h : CalIn w we A c hs) (hV : VarD w) :
    Calls Tryd.prog 9 #[.agg #[.int .i64 st, .int .i64 en, .int .i64 mo, .bool bk, .bool la, .int .u8 sb, .int .u8 ro, .int .u8 we, .slice A hs.length c], .int .i64 day] w (OkS w) := by
  have H0 := fun W (hW : Below w.heap.size w W) => alive_any6 W (hV.below hW)
  cases hg : grtB hs
  · obtain ⟨y, m, d, hD⟩ := tri_ex st en mo bk sb ro we hs
    have H1 := fun W (hW : Below w.heap.size w W) => pdates_any st en mo bk la sb ro we A c hs y m d W (h.below hW) (hV.below hW) hD
    have H2 := fun W (hW : Below w.heap.size w W) => pfind_any st en mo bk la sb ro we A c hs y m d day W (h.below hW) (hV.below hW) hD
    by_cases h0 : rdE st en mo bk la sb ro we hs y m d = 0
    · rw [h0] at H1
      obtain ⟨hv, hL, hn, -, hR⟩ := rdL_ok st en mo bk la sb ro we hs y m d h0
      rw [hL] at H1
      rcases fd_cases st en mo bk la sb ro we hs y m d h0 day with ⟨i, hi, h1, h2, h3, h4, e1, e2⟩ | ⟨h1, e1, e2⟩
      · rw [e1, e2] at H2
        exact inside_yes st en mo bk la sb ro we A c hs day _ i _ (dtL_len _ _ _ _ _) (by omega) (by omega) _ _ (dtL_get _ _ _ _ _ (by omega)) (dtL_get _ _ _ _ _ (by omega)) h1 h2 h3 h4 w h hg H0 H1 H2
      · rw [e1] at H2
        exact inside_no st en mo bk la sb ro we A c hs day _ (by rw [bne_iff_ne]; exact e2) _ h1 w h hg H0 H1 H2
    · rw [rdL_bad st en mo bk la sb ro we hs y m d h0] at H1
      have e1 : fdV st en mo bk la sb ro we hs y m d day = 0 := by unfold fdV; rw [if_neg h0]
      have e2 : fdE st en mo bk la sb ro we hs y m d day = rdE st en mo bk la sb ro we hs y m d := by unfold fdE; rw [if_neg h0]
      rw [e1, e2] at H2
      exact inside_err st en mo bk la sb ro we A c hs day _ (by rw [bne_iff_ne]; exact h0) w h hg H0 H1 H2
  · exact inside_great st en mo bk la sb ro we A c hs day w h hg H0
end
end Go.Proofs.YtfheeipggedaiaaDoor

/- Layer 6: what Periods and Find answer, the program's and the reference's. -/
import Derived.Test.YtfheeipggedaiaaDoorScX
import Derived.Test.YtfheeipggedaiaaDoorScW
import Derived.Test.YtfheeipggedaiaaDoorScU
import Derived.Test.YtfheeipggedaiaaDoorCalJ
namespace Go.Proofs.YtfheeipggedaiaaDoor
open Go Go.RowKit

theorem search_cnt (A : Option Addr) (c : Nat) (hs : List Int) (d : Int) (w : World) (h : HsA w A hs) (hl : hs.length ≤ 1000) (ho : hs.Pairwise (· ≤ ·)) :
    Calls Tryd.prog 28 #[.slice A hs.length c, .int .i64 d] w fun e w' => e = .returned (.tuple #[.int .i64 (hs.countP (· < d) : Nat), .bool (hs.contains d)]) ∧ Below w.heap.size w w' := by
  rcases h with rfl | ⟨b, o, rfl, hb, hc⟩
  · refine (Tryd.slices_BinarySearch_int_empty A c d w).mono ?_
    rintro e w' ⟨rfl, rfl⟩
    exact ⟨rfl, Below.refl _ _⟩
  · have h := Tryd.slices_BinarySearch_int b o hs.length c hs d w (Nat.le_refl _) (by omega) hc (by rw [List.take_length]; exact ho)
    rw [List.take_length] at h
    refine h.mono ?_
    rintro e w' ⟨rfl, q, rfl⟩
    exact ⟨rfl, rfl, rfl, rfl, Nat.le_refl _, fun _ _ => rfl⟩
section
variable (st en mo : Int) (bk la : Bool) (sb ro we : Int) (A : Option Addr) (c : Nat) (hs : List Int) (y m d : Int)
set_option maxRecDepth 100000 in
set_option maxHeartbeats 1600000 in
theorem pfind_err (day e : Int) (he : (e != 0) = true) (w : World) (H : ∀ W, Below w.heap.size w W → Calls Tryd.prog 11 #[.agg #[.int .i64 st, .int .i64 en, .int .i64 mo, .bool bk, .bool la, .int .u8 sb, .int .u8 ro, .int .u8 we, .slice A hs.length c]] W (DtsR [] e W)) :
    Calls Tryd.prog 12 #[.agg #[.int .i64 st, .int .i64 en, .int .i64 mo, .bool bk, .bool la, .int .u8 sb, .int .u8 ro, .int .u8 we, .slice A hs.length c], .int .i64 day] w (FinR 0 e w) := by
  have J := Lib.hid H
  clear H
  go_enter Tryd.func12, Tryd.ntmps12
  go_wp2_with (go_at_call 11; ((with_reducible refine (J.out _ (belE_c _ _)).mono ?_); rintro x w1 ⟨A1, c1, rfl, -, -, -, -, b⟩; have B1 := Lib.hid (btS (belE_c _ _) b); clear b))
  go_ret2
  exact ⟨rfl, B1.out⟩
set_option maxRecDepth 100000 in
set_option maxHeartbeats 1600000 in
theorem pfind_day (day : Int) (L : List Int) (hd : dayB day = false) (w : World) (H : ∀ W, Below w.heap.size w W → Calls Tryd.prog 11 #[.agg #[.int .i64 st, .int .i64 en, .int .i64 mo, .bool bk, .bool la, .int .u8 sb, .int .u8 ro, .int .u8 we, .slice A hs.length c]] W (DtsR L 0 W)) :
    Calls Tryd.prog 12 #[.agg #[.int .i64 st, .int .i64 en, .int .i64 mo, .bool bk, .bool la, .int .u8 sb, .int .u8 ro, .int .u8 we, .slice A hs.length c], .int .i64 day] w (FinR 0 2 w) := by
  have J := Lib.hid H
  have HD := Lib.hid (isDayS_any day false hd)
  clear H hd
  go_enter Tryd.func12, Tryd.ntmps12
  go_wp2_with (first
    | (go_at_call 11; ((with_reducible refine (J.out _ (belE_c _ _)).mono ?_); rintro x w1 ⟨A1, c1, rfl, -, -, -, -, b⟩; have B1 := Lib.hid (btS (belE_c _ _) b); clear b))
    | (go_at_call 27; ((with_reducible refine (HD.out _).mono ?_); rintro x w2 ⟨rfl, rfl⟩)))
  go_ret2
  exact ⟨rfl, B1.out⟩
set_option maxRecDepth 100000 in
set_option maxHeartbeats 1600000 in
theorem pfind_out (day : Int) (L : List Int) (hd : dayB day = true) (ho : day < st ∨ st ≤ day ∧ en ≤ day) (w : World) (H : ∀ W, Below w.heap.size w W → Calls Tryd.prog 11 #[.agg #[.int .i64 st, .int .i64 en, .int .i64 mo, .bool bk, .bool la, .int .u8 sb, .int .u8 ro, .int .u8 we, .slice A hs.length c]] W (DtsR L 0 W)) :
    Calls Tryd.prog 12 #[.agg #[.int .i64 st, .int .i64 en, .int .i64 mo, .bool bk, .bool la, .int .u8 sb, .int .u8 ro, .int .u8 we, .slice A hs.length c], .int .i64 day] w (FinR 0 6 w) := by
  have J := Lib.hid H
  have HD := Lib.hid (isDayS_any day true hd)
  clear H hd
  rcases ho with ho | ⟨ho, ho2⟩
  all_goals
    go_enter Tryd.func12, Tryd.ntmps12
    go_wp2_with (first
      | (go_at_call 11; ((with_reducible refine (J.out _ (belE_c _ _)).mono ?_); rintro x w1 ⟨A1, c1, rfl, -, -, -, -, b⟩; obtain ⟨q0, q1, q2, q3, q4, q5, q6, q7, q8⟩ := row9S b; have B1 := Lib.hid (btS (belE_c _ _) b); clear b))
      | (go_at_call 27; ((with_reducible refine (HD.out _).mono ?_); rintro x w2 ⟨rfl, rfl⟩)))
    go_ret2
    exact ⟨rfl, B1.out⟩
set_option maxRecDepth 100000 in
set_option maxHeartbeats 1600000 in
theorem pfind_in (day : Int) (L : List Int) (i : Nat) (z : Bool) (hi : i ≤ 1000) (hL : L.length ≤ 1000) (hs' : L.Pairwise (· ≤ ·)) (hc : L.countP (· < day) = if z then i else i + 1) (hz : L.contains day = z) (hd : dayB day = true) (h0 : st ≤ day) (h1 : day < en) (w : World) (H : ∀ W, Below w.heap.size w W → Calls Tryd.prog 11 #[.agg #[.int .i64 st, .int .i64 en, .int .i64 mo, .bool bk, .bool la, .int .u8 sb, .int .u8 ro, .int .u8 we, .slice A hs.length c]] W (DtsR L 0 W)) :
    Calls Tryd.prog 12 #[.agg #[.int .i64 st, .int .i64 en, .int .i64 mo, .bool bk, .bool la, .int .u8 sb, .int .u8 ro, .int .u8 we, .slice A hs.length c], .int .i64 day] w (FinR i 0 w) := by
  have J := Lib.hid H
  have HD := Lib.hid (isDayS_any day true hd)
  have HS := Lib.hid (fun A1 c1 W h => search_cnt A1 c1 L day W h hL hs')
  rw [hc, hz] at HS
  clear H hd hs' hc hz hL
  cases z
  all_goals
    simp only [if_true, Bool.false_eq_true, if_false] at HS
    go_enter Tryd.func12, Tryd.ntmps12
    go_wp2_with (first
      | (go_at_call 11; ((with_reducible refine (J.out _ (belE_c _ _)).mono ?_); rintro x w1 ⟨A1, c1, rfl, hr, -, -, -, b⟩; obtain ⟨q0, q1, q2, q3, q4, q5, q6, q7, q8⟩ := row9S b; have HR := Lib.hid hr; have B1 := Lib.hid (btS (belE_c _ _) b); clear b hr))
      | (go_at_call 27; ((with_reducible refine (HD.out _).mono ?_); rintro x w2 ⟨rfl, rfl⟩))
      | (go_at_call 28; ((with_reducible refine (HS.out _ _ _ HR.out).mono ?_); rintro x w3 ⟨rfl, b⟩; have B3 := Lib.hid (btS B1.out b); clear b)))
    go_ret2
    exact ⟨by first | rfl | (congr 3; omega), B3.out⟩
theorem pfind_any (day : Int) (w : World) (h : CalIn w we A c hs) (hV : VarD w) (hD : schB st en mo sb ro we hs = true → IsDate y m d (bsd st en bk)) :
    Calls Tryd.prog 12 #[.agg #[.int .i64 st, .int .i64 en, .int .i64 mo, .bool bk, .bool la, .int .u8 sb, .int .u8 ro, .int .u8 we, .slice A hs.length c], .int .i64 day] w (FinR (fdV st en mo bk la sb ro we hs y m d day) (fdE st en mo bk la sb ro we hs y m d day) w) := by
  have H := fun W (hW : Below w.heap.size w W) => pdates_any st en mo bk la sb ro we A c hs y m d W (h.below hW) (hV.below hW) hD
  unfold fdV fdE
  by_cases h0 : rdE st en mo bk la sb ro we hs y m d = 0
  · rw [if_pos h0, if_pos h0]
    rw [h0] at H
    obtain ⟨hv, hL, hn, -, hR⟩ := rdL_ok st en mo bk la sb ro we hs y m d h0
    cases hd : dayB day
    · exact pfind_day st en mo bk la sb ro we A c hs day _ hd w H
    · have hF := fnd_of (rdL st en mo bk la sb ro we hs y m d) day
      simp only [if_true]
      generalize fnV (rdL st en mo bk la sb ro we hs y m d) day = v at *
      generalize fnE (rdL st en mo bk la sb ro we hs y m d) day = e at *
      rw [hL] at H hF
      generalize rdN6 st en mo bk la sb y m d = n at *
      generalize stpV mo bk la y m d = f at *
      have hg : ∀ j, j < n + 2 → (dtL bk f n st en).getD j 0 = dtI bk f n st en j := fun j hj => dtL_get _ _ _ _ _ hj
      by_cases hin : st ≤ day ∧ day < en
      · obtain ⟨i, hi, h1, h2⟩ := dt_find bk f n st en hin.1 hin.2
        obtain ⟨rfl, rfl⟩ := hF.at' i (by rw [dtL_len]; omega) (fun j hj hp => by
          unfold perB at hp
          rw [hg j (by omega), hg (j + 1) (by omega)] at hp
          have := hR.one (by omega) hi hp ⟨h1, h2⟩
          omega) (by unfold perB; rw [hg i (by omega), hg (i + 1) (by omega)]; exact ⟨h1, h2⟩)
        obtain ⟨c1, c2⟩ := dtL_cnt hR hi h1 h2
        refine pfind_in st en mo bk la sb ro we A c hs day _ i (decide (dtI bk f n st en i = day)) (by omega) (by rw [dtL_len]; omega) (dtL_sorted hR) ?_ c2 hd hin.1 hin.2 w H
        rw [c1]
        by_cases e : dtI bk f n st en i = day
        · rw [if_pos e, decide_eq_true e]; rfl
        · rw [if_neg e, decide_eq_false e]; rfl
      · obtain ⟨rfl, rfl⟩ := hF.no (fun j hj hp => by
          rw [dtL_len] at hj
          unfold perB at hp
          rw [hg j (by omega), hg (j + 1) (by omega)] at hp
          have a := hR.in_all (i := j) (by omega)
          have b := hR.in_all (i := j + 1) (by omega)
          omega)
        exact pfind_out st en mo bk la sb ro we A c hs day _ hd (by omega) w H
  · rw [if_neg h0, if_neg h0]
    rw [rdL_bad st en mo bk la sb ro we hs y m d h0] at H
    exact pfind_err st en mo bk la sb ro we A c hs day _ (by rw [bne_iff_ne]; exact h0) w H
theorem rfind_any (day : Int) (w : World) (h : CalIn w we A c hs) (hD : schB st en mo sb ro we hs = true → IsDate y m d (bsd st en bk)) :
    Calls Tryd.prog 23 #[.agg #[.int .i64 st, .int .i64 en, .int .i64 mo, .bool bk, .bool la, .int .u8 sb, .int .u8 ro, .int .u8 we, .slice A hs.length c], .int .i64 day] w (FinR (fdV st en mo bk la sb ro we hs y m d day) (fdE st en mo bk la sb ro we hs y m d day) w) := by
  have H := fun W (hW : Below w.heap.size w W) => rdates_any st en mo bk la sb ro we A c hs y m d W (h.below hW) hD
  unfold fdV fdE
  by_cases h0 : rdE st en mo bk la sb ro we hs y m d = 0
  · rw [if_pos h0, if_pos h0]
    rw [h0] at H
    obtain ⟨hv, hL, hn, -, hR⟩ := rdL_ok st en mo bk la sb ro we hs y m d h0
    cases hd : dayB day
    · exact rfind_day st en mo bk la sb ro we A c hs day _ hd w H
    · have hF := fnd_of (rdL st en mo bk la sb ro we hs y m d) day
      simp only [if_true]
      exact rfind_in st en mo bk la sb ro we A c hs day _ _ _ (by rw [hL, dtL_len]; omega) (by rw [hL, dtL_len]; omega) hF hd w H
  · rw [if_neg h0, if_neg h0]
    rw [rdL_bad st en mo bk la sb ro we hs y m d h0] at H
    exact rfind_err st en mo bk la sb ro we A c hs day _ (by rw [bne_iff_ne]; exact h0) w H
variable (S : Int → Int → Bool)
theorem pper_any (w : World) (h : CalIn w we A c hs) (hV : VarD w) (r0 : 0 ≤ ro) (hS : ∀ day, 0 ≤ day → SmIs day (S day)) (hD : schB st en mo sb ro we hs = true → IsDate y m d (bsd st en bk)) :
    Calls Tryd.prog 14 #[.agg #[.int .i64 st, .int .i64 en, .int .i64 mo, .bool bk, .bool la, .int .u8 sb, .int .u8 ro, .int .u8 we, .slice A hs.length c]] w (PrsP (prR st en mo bk la sb ro we hs y m d S) (prE st en mo bk la sb ro we hs y m d S) w) := by
  have H := fun W (hW : Below w.heap.size w W) => pdates_any st en mo bk la sb ro we A c hs y m d W (h.below hW) (hV.below hW) hD
  by_cases h0 : rdE st en mo bk la sb ro we hs y m d = 0
  · obtain ⟨hv, hL, hn, -, hR⟩ := rdL_ok st en mo bk la sb ro we hs y m d h0
    have hl : (rdL st en mo bk la sb ro we hs y m d).length = rdN6 st en mo bk la sb y m d + 2 := by rw [hL, dtL_len]
    have hfst := pr_first st en mo bk la sb ro we hs y m d S h0
    have hok := prOk_iff ro we hs S (rdL st en mo bk la sb ro we hs y m d)
    have HR : ∀ (i : Nat) W, i < (rdL st en mo bk la sb ro we hs y m d).length → Below w.heap.size w W → Calls Tryd.prog 24 #[.agg #[.int .u8 we, .slice A hs.length c], .int .i64 ((rdL st en mo bk la sb ro we hs y m d).getD i 0), .int .u8 ro] W fun x w' => x = .returned (.tuple #[.int .i64 (rolV ro we hs S (rdL st en mo bk la sb ro we hs y m d) i), .int .i64 (rolE ro we hs S (rdL st en mo bk la sb ro we hs y m d) i)]) ∧ Below W.heap.size W w' :=
      fun i W _ hW => roll_any we A c hs _ _ ro _ _ W (h.below hW) r0 (hS _) (hV.below hW) rfl rfl
    rw [h0] at H
    unfold prR prE
    rw [if_pos h0]
    generalize rdL st en mo bk la sb ro we hs y m d = L at *
    cases hk : prOk ro we hs S L
    · simp only [Bool.false_eq_true, if_false]
      rw [if_neg (by decide)]
      have hA : RolA (rolV ro we hs S L) (rolE ro we hs S L) L.length [] 40 := ⟨fun g => (by rw [(hok.2 g)] at hk; cases hk), fun i hi _ g => ⟨rfl, (hfst hk i hi g).symm⟩⟩
      exact pperiods_err2 st en mo bk la sb ro we A c hs L 40 (by decide) w H (fun A1 c1 W hW hr => rolled_in st en mo bk la sb ro we A c hs A1 c1 L L.length rfl (by omega) _ _ _ _ hA W hr (fun i W2 hi h2 => HR i W2 hi (btS hW h2)))
    · simp only [if_true]
      have hA : RolA (rolV ro we hs S L) (rolE ro we hs S L) L.length (cntL (rolV ro we hs S L) L.length) 0 := ⟨fun _ => ⟨rfl, rfl⟩, fun i hi _ g => absurd (hok.1 hk i hi) g⟩
      obtain ⟨N, hN⟩ : ∃ N, L.length = N + 1 := ⟨L.length - 1, by omega⟩
      have hA' := hA
      rw [hN] at hA'
      have e : L.length - 1 = N := by omega
      rw [e]
      refine pperiods_ok st en mo bk la sb ro we A c hs L _ N hN (by omega) (by omega) w H (fun A1 c1 W hW hr => ?_)
      rw [hN]
      exact rolled_in st en mo bk la sb ro we A c hs A1 c1 L (N + 1) hN (by omega) _ _ _ _ hA' W hr (fun i W2 hi h2 => HR i W2 (by omega) (btS hW h2))
  · have e1 : prE st en mo bk la sb ro we hs y m d S = rdE st en mo bk la sb ro we hs y m d := by unfold prE; rw [if_neg h0]
    have e2 : prR st en mo bk la sb ro we hs y m d S = [] := by unfold prR; rw [e1, if_neg h0]
    rw [e1, e2]
    rw [rdL_bad st en mo bk la sb ro we hs y m d h0] at H
    exact pperiods_err st en mo bk la sb ro we A c hs _ (by rw [bne_iff_ne]; exact h0) w H
theorem rper_any (w : World) (h : CalIn w we A c hs) (r0 : 0 ≤ ro) (hS : ∀ day, 0 ≤ day → SmIs day (S day)) (hD : schB st en mo sb ro we hs = true → IsDate y m d (bsd st en bk)) :
    Calls Tryd.prog 20 #[.agg #[.int .i64 st, .int .i64 en, .int .i64 mo, .bool bk, .bool la, .int .u8 sb, .int .u8 ro, .int .u8 we, .slice A hs.length c]] w (PrsP (prR st en mo bk la sb ro we hs y m d S) (prE st en mo bk la sb ro we hs y m d S) w) := by
  have H := fun W (hW : Below w.heap.size w W) => rdates_any st en mo bk la sb ro we A c hs y m d W (h.below hW) hD
  by_cases h0 : rdE st en mo bk la sb ro we hs y m d = 0
  · obtain ⟨hv, hL, hn, -, hR⟩ := rdL_ok st en mo bk la sb ro we hs y m d h0
    have hl : (rdL st en mo bk la sb ro we hs y m d).length = rdN6 st en mo bk la sb y m d + 2 := by rw [hL, dtL_len]
    have hfst := pr_first st en mo bk la sb ro we hs y m d S h0
    have hok := prOk_iff ro we hs S (rdL st en mo bk la sb ro we hs y m d)
    rw [h0] at H
    have hPE : prE st en mo bk la sb ro we hs y m d S = if prOk ro we hs S (rdL st en mo bk la sb ro we hs y m d) then 0 else 40 := by unfold prE; rw [if_pos h0]
    have hPR : prR st en mo bk la sb ro we hs y m d S = if prE st en mo bk la sb ro we hs y m d S = 0 then pmkL (rdL st en mo bk la sb ro we hs y m d) (rolV ro we hs S (rdL st en mo bk la sb ro we hs y m d)) ((rdL st en mo bk la sb ro we hs y m d).length - 1) else [] := rfl
    generalize rdL st en mo bk la sb ro we hs y m d = L at *
    obtain ⟨N, hN⟩ : ∃ N, L.length = N + 1 := ⟨L.length - 1, by omega⟩
    have e : L.length - 1 = N := by omega
    rw [e] at hPR
    have hA : PerA L (rolV ro we hs S L) (rolE ro we hs S L) N (prR st en mo bk la sb ro we hs y m d S) (prE st en mo bk la sb ro we hs y m d S) := by
      cases hk : prOk ro we hs S L
      · rw [hk] at hPE
        rw [if_neg (by decide)] at hPE
        rw [hPE, if_neg (by decide)] at hPR
        rw [hPE, hPR]
        refine ⟨fun g => ?_, fun i hi _ => ⟨fun g => ⟨rfl, (hfst hk i (by omega) g).symm⟩, fun _ g => ⟨rfl, (hfst hk (i + 1) (by omega) g).symm⟩⟩⟩
        rw [hok.2 (fun i hi => g i (by omega))] at hk
        cases hk
      · rw [hk] at hPE
        rw [if_pos rfl] at hPE
        rw [hPE, if_pos rfl] at hPR
        rw [hPE, hPR]
        exact ⟨fun _ => ⟨rfl, rfl⟩, fun i hi _ => ⟨fun g => absurd (hok.1 hk i (by omega)) g, fun _ g => absurd (hok.1 hk (i + 1) (by omega)) g⟩⟩
    exact rperiods_in st en mo bk la sb ro we A c hs L N hN (by omega) (by omega) _ _ _ _ hA w H (fun i W hi hW => refRoll_any we A c hs _ _ ro _ _ W (h.below hW) r0 (hS _) rfl rfl)
  · have e1 : prE st en mo bk la sb ro we hs y m d S = rdE st en mo bk la sb ro we hs y m d := by unfold prE; rw [if_neg h0]
    have e2 : prR st en mo bk la sb ro we hs y m d S = [] := by unfold prR; rw [e1, if_neg h0]
    rw [e1, e2]
    rw [rdL_bad st en mo bk la sb ro we hs y m d h0] at H
    exact rperiods_err st en mo bk la sb ro we A c hs _ (by rw [bne_iff_ne]; exact h0) w H
end
end Go.Proofs.YtfheeipggedaiaaDoor

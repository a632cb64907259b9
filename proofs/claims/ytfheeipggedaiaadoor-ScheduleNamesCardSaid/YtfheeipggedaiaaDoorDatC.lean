/- Layer 3: the program's walks: Parts, Weekday, AddMonths. -/
import Derived.Test.YtfheeipggedaiaaDoorDatB
namespace Go.Proofs.YtfheeipggedaiaaDoor
open Go Go.RowKit

theorem results_tmp4 {fn : Func} {t u v x : Tmp} (h : fn.results = #[.tmp t, .tmp u, .tmp v, .tmp x]) (tmps : Array Value) (P : Program) (w : World) :
    (results fn tmps).run P w = .ok (.tuple #[tmps.getD t undef, tmps.getD u undef, tmps.getD v undef, tmps.getD x undef]) w := by
  simp [results, h]

set_option maxHeartbeats 400000 in
theorem parts4_in (Y M D n : Int) (h : IsDate Y M D n) (hn : n ≤ 99999) (w : World) (hv : VarD w) :
    Calls Tryd.prog 70 #[.int .i64 n] w fun e w' => e = .returned (.tuple #[.int .i64 Y, .int .i64 M, .int .i64 D, .int .i64 0]) ∧ w = w' := by
  have HD := Lib.hid (isDay_in n h.n0 hn w)
  have HP := Lib.hid (parts_anyD Y M D n h hn w hv)
  clear h hn hv
  go_enter Tryd.func70, Tryd.ntmps70
  go_wp2_with (first
    | (go_at_call 41; ((with_reducible refine HD.out.mono ?_); rintro e w' ⟨rfl, rfl⟩))
    | (go_at_call 42; ((with_reducible refine HP.out.mono ?_); rintro e w' ⟨rfl, rfl⟩)))
  refine bodyPost_ret (results_tmp4 rfl _ _ _) rfl ?_
  exact ⟨rfl, rfl⟩
set_option maxHeartbeats 400000 in
theorem parts4_out (n : Int) (h : n < 0 ∨ 99999 < n) (w : World) :
    Calls Tryd.prog 70 #[.int .i64 n] w fun e w' => e = .returned (.tuple #[.int .i64 0, .int .i64 0, .int .i64 0, .int .i64 2]) ∧ w = w' := by
  have HD := Lib.hid (isDay_out n h w)
  clear h
  go_enter Tryd.func70, Tryd.ntmps70
  go_wp2_with (go_at_call 41; ((with_reducible refine HD.out.mono ?_); rintro e w' ⟨rfl, rfl⟩))
  refine bodyPost_ret (results_tmp4 rfl _ _ _) rfl ?_
  exact ⟨rfl, rfl⟩
set_option maxHeartbeats 400000 in
theorem weekday_in (n : Int) (h0 : 0 ≤ n) (hn : n ≤ 99999) (w : World) :
    Calls Tryd.prog 49 #[.int .i64 n] w fun e w' => e = .returned (.tuple #[.int .i64 (n % 7), .int .i64 0]) ∧ w = w' := by
  have HD := Lib.hid (isDay_in n h0 hn w)
  go_enter Tryd.func49, Tryd.ntmps49
  go_wp2_with (go_at_call 41; ((with_reducible refine HD.out.mono ?_); rintro e w' ⟨rfl, rfl⟩))
  go_ret2
  exact ⟨rfl, rfl⟩
set_option maxHeartbeats 400000 in
theorem weekday_out (n : Int) (h : n < 0 ∨ 99999 < n) (w : World) :
    Calls Tryd.prog 49 #[.int .i64 n] w fun e w' => e = .returned (.tuple #[.int .i64 0, .int .i64 2]) ∧ w = w' := by
  have HD := Lib.hid (isDay_out n h w)
  clear h
  go_enter Tryd.func49, Tryd.ntmps49
  go_wp2_with (go_at_call 41; ((with_reducible refine HD.out.mono ?_); rintro e w' ⟨rfl, rfl⟩))
  go_ret2
  exact ⟨rfl, rfl⟩

/-- The month that AddMonths comes to. -/
def mvY (y m n : Int) : Int := (12 * y + m - 1 + n) / 12
def mvM (y m n : Int) : Int := (12 * y + m - 1 + n) % 12 + 1
/-- The day of the month. -/
def amD (y m d n : Int) (b : Bool) : Int := if b && decide (d = mlen y m) then mlen (mvY y m n) (mvM y m n) else min d (mlen (mvY y m n) (mvM y m n))
/-- What AddMonths answers. -/
def amV (y m d n : Int) (b : Bool) : Int := ofV (mvY y m n) (mvM y m n) (amD y m d n b)
def amE (y m d n : Int) (b : Bool) : Int := if okB (mvY y m n) (mvM y m n) (amD y m d n b) then 0 else 40
theorem amD_bd (y m d n : Int) (b : Bool) (h : 1 ≤ d) : 1 ≤ amD y m d n b ∧ amD y m d n b ≤ mlen (mvY y m n) (mvM y m n) := by
  have := mlen_bd (mvY y m n) (mvM y m n)
  unfold amD; split <;> omega

set_option maxHeartbeats 400000 in
theorem moved_any (y m n : Int) (y0 : 1900 ≤ y) (y1 : y ≤ 2173) (m0 : 1 ≤ m) (m1 : m ≤ 12) (n0 : -4000 ≤ n) (n1 : n ≤ 4000) (w : World) :
    Calls Tryd.prog 44 #[.int .i64 y, .int .i64 m, .int .i64 n] w fun e w' => e = .returned (.tuple #[.int .i64 (mvY y m n), .int .i64 (mvM y m n)]) ∧ w = w' := by
  have HE : Hid (y * 12 + m - 1 + n = 12 * y + m - 1 + n) := by show _ = _; omega
  have h0 : 0 ≤ y * 12 + m - 1 + n := by omega
  unfold mvY mvM
  go_enter Tryd.func44, Tryd.ntmps44
  go_wp2
  go_ret2
  exact ⟨ret_pair (by rw [HE.out]) (by rw [HE.out]), rfl⟩

set_option maxRecDepth 100000 in
set_option maxHeartbeats 1600000 in
theorem addMonths_in (Y M D n k : Int) (b : Bool) (h : IsDate Y M D n) (hn : n ≤ 99999) (k0 : -4000 ≤ k) (k1 : k ≤ 4000) (w : World) (hv : VarD w) :
    Calls Tryd.prog 25 #[.int .i64 n, .int .i64 k, .bool b] w fun e w' => e = .returned (.tuple #[.int .i64 (amV Y M D k b), .int .i64 (amE Y M D k b)]) ∧ w = w' := by
  have HD := Lib.hid (isDay_in n h.n0 hn w)
  have HP := Lib.hid (parts_anyD Y M D n h hn w hv)
  have HM := Lib.hid (moved_any Y M k h.y0 (h.y1 hn) h.m0 h.m1 k0 k1 w)
  have HN := Lib.hid (length_any Y M h.m0 h.m1 w hv)
  have HO := Lib.hid (of_anyD (mvY Y M k) (mvM Y M k) (amD Y M D k b) w hv)
  obtain ⟨a0, a1⟩ := amD_bd Y M D k b h.d0
  have hAE : amE Y M D k b = if okB (mvY Y M k) (mvM Y M k) (amD Y M D k b) then 0 else 40 := rfl
  have hAV : amV Y M D k b = if okB (mvY Y M k) (mvM Y M k) (amD Y M D k b) then ofV (mvY Y M k) (mvM Y M k) (amD Y M D k b) else 0 := by
    unfold amV ofV; cases okB (mvY Y M k) (mvM Y M k) (amD Y M D k b) <;> rfl
  have hOE : ofE (mvY Y M k) (mvM Y M k) (amD Y M D k b) = if okB (mvY Y M k) (mvM Y M k) (amD Y M D k b) then 0 else 2 := rfl
  have hDD : amD Y M D k b = if b && decide (D = mlen Y M) then mlen (mvY Y M k) (mvM Y M k) else min D (mlen (mvY Y M k) (mvM Y M k)) := rfl
  have hokY : okB (mvY Y M k) (mvM Y M k) (amD Y M D k b) = true → ymB (mvY Y M k) (mvM Y M k) = true := by
    intro h; unfold okB at h; simp at h; exact h.1.1.1
  have HL := Lib.hid (length2_any (mvY Y M k) (mvM Y M k) w hv)
  unfold lnV lnE at HL
  rw [hOE] at HO
  rw [hAV, hAE]
  generalize ofV (mvY Y M k) (mvM Y M k) (amD Y M D k b) = v at *
  generalize okB (mvY Y M k) (mvM Y M k) (amD Y M D k b) = ok at *
  generalize ymB (mvY Y M k) (mvM Y M k) = ym at *
  obtain ⟨l0, l1⟩ := mlen_bd (mvY Y M k) (mvM Y M k)
  generalize mlen (mvY Y M k) (mvM Y M k) = l' at *
  generalize mlen Y M = l at *
  generalize amD Y M D k b = dd at *
  generalize mvY Y M k = Y' at *
  generalize mvM Y M k = M' at *
  have d0 := h.d0
  have d31 := h.d31
  clear hOE hAE hAV hv h
  cases ym with
  | false =>
    obtain rfl : ok = false := by cases ok <;> simp_all
    clear hokY hDD HO
    rw [if_neg (by decide), if_neg (by decide)] at HL ⊢
    cases b with
    | false =>
      go_enter Tryd.func25, Tryd.ntmps25
      go_wp2_with (first
        | (go_at_call 41; ((with_reducible refine HD.out.mono ?_); rintro e w' ⟨rfl, rfl⟩))
        | (go_at_call 42; ((with_reducible refine HP.out.mono ?_); rintro e w' ⟨rfl, rfl⟩))
        | (go_at_call 44; ((with_reducible refine HM.out.mono ?_); rintro e w' ⟨rfl, rfl⟩))
        | (go_at_call 45; ((with_reducible refine HL.out.mono ?_); rintro e w' ⟨rfl, rfl⟩)))
      go_ret2
      exact ⟨rfl, rfl⟩
    | true =>
      go_enter Tryd.func25, Tryd.ntmps25
      go_wp2_with (first
        | (go_at_call 41; ((with_reducible refine HD.out.mono ?_); rintro e w' ⟨rfl, rfl⟩))
        | (go_at_call 42; ((with_reducible refine HP.out.mono ?_); rintro e w' ⟨rfl, rfl⟩))
        | (go_at_call 43; ((with_reducible refine HN.out.mono ?_); rintro e w' ⟨rfl, rfl⟩))
        | (go_at_call 44; ((with_reducible refine HM.out.mono ?_); rintro e w' ⟨rfl, rfl⟩))
        | (go_at_call 45; ((with_reducible refine HL.out.mono ?_); rintro e w' ⟨rfl, rfl⟩)))
      go_ret2
      exact ⟨rfl, rfl⟩
  | true =>
    clear hokY
    rw [if_pos rfl, if_pos rfl] at HL
    have hcase : (b = false ∧ D ≤ l' ∧ dd = D) ∨ (b = false ∧ l' < D ∧ dd = l') ∨ (b = true ∧ D = l ∧ dd = l') ∨ (b = true ∧ D ≠ l ∧ D ≤ l' ∧ D = dd) ∨ (b = true ∧ D ≠ l ∧ l' < D ∧ dd = l') := by
      cases b with
      | false =>
        simp only [Bool.false_and, Bool.false_eq_true, if_false] at hDD
        by_cases g : D ≤ l'
        · exact .inl ⟨rfl, g, by omega⟩
        · exact .inr (.inl ⟨rfl, by omega, by omega⟩)
      | true =>
        by_cases e : D = l
        · simp only [Bool.true_and, e, decide_true, if_true] at hDD
          exact .inr (.inr (.inl ⟨rfl, e, hDD⟩))
        · simp only [Bool.true_and, e, decide_false, Bool.false_eq_true, if_false] at hDD
          by_cases g : D ≤ l'
          · exact .inr (.inr (.inr (.inl ⟨rfl, e, g, by omega⟩)))
          · exact .inr (.inr (.inr (.inr ⟨rfl, e, by omega, by omega⟩)))
    clear hDD
    rcases hcase with ⟨rfl, c, rfl⟩ | ⟨rfl, c, rfl⟩ | ⟨rfl, rfl, rfl⟩ | ⟨rfl, hne, c, rfl⟩ | ⟨rfl, hne, c, rfl⟩
    · cases ok
      all_goals
        go_enter Tryd.func25, Tryd.ntmps25
        go_wp2_with (first
          | (go_at_call 41; ((with_reducible refine HD.out.mono ?_); rintro e w' ⟨rfl, rfl⟩))
          | (go_at_call 42; ((with_reducible refine HP.out.mono ?_); rintro e w' ⟨rfl, rfl⟩))
          | (go_at_call 43; ((with_reducible refine HN.out.mono ?_); rintro e w' ⟨rfl, rfl⟩))
          | (go_at_call 44; ((with_reducible refine HM.out.mono ?_); rintro e w' ⟨rfl, rfl⟩))
          | (go_at_call 45; ((with_reducible refine HL.out.mono ?_); rintro e w' ⟨rfl, rfl⟩))
          | (go_at_call 46; ((with_reducible refine HO.out.mono ?_); rintro e w' ⟨rfl, rfl⟩)))
        go_ret2
        exact ⟨rfl, rfl⟩
    · cases ok
      all_goals
        go_enter Tryd.func25, Tryd.ntmps25
        go_wp2_with (first
          | (go_at_call 41; ((with_reducible refine HD.out.mono ?_); rintro e w' ⟨rfl, rfl⟩))
          | (go_at_call 42; ((with_reducible refine HP.out.mono ?_); rintro e w' ⟨rfl, rfl⟩))
          | (go_at_call 43; ((with_reducible refine HN.out.mono ?_); rintro e w' ⟨rfl, rfl⟩))
          | (go_at_call 44; ((with_reducible refine HM.out.mono ?_); rintro e w' ⟨rfl, rfl⟩))
          | (go_at_call 45; ((with_reducible refine HL.out.mono ?_); rintro e w' ⟨rfl, rfl⟩))
          | (go_at_call 46; ((with_reducible refine HO.out.mono ?_); rintro e w' ⟨rfl, rfl⟩)))
        go_ret2
        exact ⟨rfl, rfl⟩
    · cases ok
      all_goals
        go_enter Tryd.func25, Tryd.ntmps25
        go_wp2_with (first
          | (go_at_call 41; ((with_reducible refine HD.out.mono ?_); rintro e w' ⟨rfl, rfl⟩))
          | (go_at_call 42; ((with_reducible refine HP.out.mono ?_); rintro e w' ⟨rfl, rfl⟩))
          | (go_at_call 43; ((with_reducible refine HN.out.mono ?_); rintro e w' ⟨rfl, rfl⟩))
          | (go_at_call 44; ((with_reducible refine HM.out.mono ?_); rintro e w' ⟨rfl, rfl⟩))
          | (go_at_call 45; ((with_reducible refine HL.out.mono ?_); rintro e w' ⟨rfl, rfl⟩))
          | (go_at_call 46; ((with_reducible refine HO.out.mono ?_); rintro e w' ⟨rfl, rfl⟩)))
        go_ret2
        exact ⟨rfl, rfl⟩
    · have hnb : (D == l) = false := by rw [beq_eq_false_iff_ne]; exact hne
      clear hne
      cases ok
      all_goals
        go_enter Tryd.func25, Tryd.ntmps25
        go_wp2_with (first
          | (go_at_call 41; ((with_reducible refine HD.out.mono ?_); rintro e w' ⟨rfl, rfl⟩))
          | (go_at_call 42; ((with_reducible refine HP.out.mono ?_); rintro e w' ⟨rfl, rfl⟩))
          | (go_at_call 43; ((with_reducible refine HN.out.mono ?_); rintro e w' ⟨rfl, rfl⟩))
          | (go_at_call 44; ((with_reducible refine HM.out.mono ?_); rintro e w' ⟨rfl, rfl⟩))
          | (go_at_call 45; ((with_reducible refine HL.out.mono ?_); rintro e w' ⟨rfl, rfl⟩))
          | (go_at_call 46; ((with_reducible refine HO.out.mono ?_); rintro e w' ⟨rfl, rfl⟩)))
        go_ret2
        exact ⟨rfl, rfl⟩
    · have hnb : (D == l) = false := by rw [beq_eq_false_iff_ne]; exact hne
      clear hne
      cases ok
      all_goals
        go_enter Tryd.func25, Tryd.ntmps25
        go_wp2_with (first
          | (go_at_call 41; ((with_reducible refine HD.out.mono ?_); rintro e w' ⟨rfl, rfl⟩))
          | (go_at_call 42; ((with_reducible refine HP.out.mono ?_); rintro e w' ⟨rfl, rfl⟩))
          | (go_at_call 43; ((with_reducible refine HN.out.mono ?_); rintro e w' ⟨rfl, rfl⟩))
          | (go_at_call 44; ((with_reducible refine HM.out.mono ?_); rintro e w' ⟨rfl, rfl⟩))
          | (go_at_call 45; ((with_reducible refine HL.out.mono ?_); rintro e w' ⟨rfl, rfl⟩))
          | (go_at_call 46; ((with_reducible refine HO.out.mono ?_); rintro e w' ⟨rfl, rfl⟩)))
        go_ret2
        exact ⟨rfl, rfl⟩

set_option maxHeartbeats 800000 in
theorem addMonths_out (n k : Int) (b : Bool) (h : n < 0 ∨ 99999 < n ∨ k < -4000 ∨ 4000 < k) (w : World) :
    Calls Tryd.prog 25 #[.int .i64 n, .int .i64 k, .bool b] w fun e w' => e = .returned (.tuple #[.int .i64 0, .int .i64 2]) ∧ w = w' := by
  by_cases hn : 0 ≤ n ∧ n ≤ 99999
  · have HD := Lib.hid (isDay_in n hn.1 hn.2 w)
    have h' : k < -4000 ∨ (-4000 ≤ k ∧ 4000 < k) := by omega
    clear hn h
    rcases h' with h | ⟨h0, h⟩
    all_goals
      go_enter Tryd.func25, Tryd.ntmps25
      go_wp2_with (go_at_call 41; ((with_reducible refine HD.out.mono ?_); rintro e w' ⟨rfl, rfl⟩))
      go_ret2
      exact ⟨rfl, rfl⟩
  · have HD := Lib.hid (isDay_out n (by omega) w)
    clear hn h
    go_enter Tryd.func25, Tryd.ntmps25
    go_wp2_with (go_at_call 41; ((with_reducible refine HD.out.mono ?_); rintro e w' ⟨rfl, rfl⟩))
    go_ret2
    exact ⟨rfl, rfl⟩
end Go.Proofs.YtfheeipggedaiaaDoor

/- The walk of the law DateInverse. -/
import Derived.Test.YteigcgncbkjmaaaDoorDatI
namespace Go.Proofs.YteigcgncbkjmaaaDoor
open Go Go.RowKit

theorem ymB_of {y m d n : Int} (h : IsDate y m d n) (hn : n ≤ 99999) : ymB y m = true := by rw [ymB_iff]; exact ⟨h.y0, h.y1 hn, h.m0, h.m1⟩
theorem of_date (y m d n : Int) (h : IsDate y m d n) (hn : n ≤ 99999) (w : World) (hv : VarD w) :
    Calls Tryd.prog 13 #[.int .i64 y, .int .i64 m, .int .i64 d] w fun r w' => r = .returned (.tuple #[.int .i64 n, .int .i64 0]) ∧ w = w' :=
  of_at y m d n 0 (h.of_v hn) (h.of_e hn) w hv

set_option maxRecDepth 100000 in
set_option maxHeartbeats 800000 in
theorem inverse_out (n : Int) (h : n < 0 ∨ 99999 < n) (w : World) (hv : VarS w) :
    Calls Tryd.prog 7 #[.int .i64 n] w fun e w' => e = .returned (.bool true) ∧ Below w.heap.size w w' := by
  have HA := Lib.hid (alive_any w hv)
  have HP := Lib.hid (parts4_out n h)
  have h' : n < 0 ∨ (0 ≤ n ∧ 99999 < n) := by omega
  clear h hv
  rcases h' with h | ⟨h0, h⟩
  all_goals
    go_enter Tryd.func7, Tryd.ntmps7
    go_wp2_with (first
      | (go_at_call 19; ((with_reducible refine HA.out.mono ?_); rintro e w1 ⟨rfl, b⟩; have B1 := Lib.hid b; clear b))
      | (go_at_call 12; ((with_reducible refine (HP.out _).mono ?_); rintro e w2 ⟨rfl, rfl⟩)))
    go_ret
    exact ⟨rfl, B1.out⟩

set_option maxRecDepth 100000 in
set_option maxHeartbeats 1600000 in
theorem inverse_last (y m d n : Int) (h : IsDate y m d n) (hn : n ≤ 99999) (hlast : n = 99999) (w : World) (hv : VarS w) :
    Calls Tryd.prog 7 #[.int .i64 n] w fun e w' => e = .returned (.bool true) ∧ Below w.heap.size w w' := by
  have HV := Lib.hid hv
  have HA := Lib.hid (alive_any w hv)
  have HP := Lib.hid (fun w1 h1 => parts4_in y m d n h hn w1 h1)
  have HO := Lib.hid (fun w1 h1 => of_date y m d n h hn w1 h1)
  have HW := Lib.hid (weekday_in n h.n0 hn)
  have HN := Lib.hid (fun w1 h1 => length2_ok y m (ymB_of h hn) w1 h1)
  have n0 := h.n0
  have d0 := h.d0
  have d1 := h.d1
  have x0 : 0 ≤ n % 7 := by omega
  have x1 : n % 7 ≤ 6 := by omega
  have y0 := h.y0
  have y1 := h.y1 hn
  have m0 := h.m0
  have m1 := h.m1
  have dd := h.d31
  obtain ⟨l0, l1⟩ := mlen_bd y m
  generalize mlen y m = l at *
  generalize hx : n % 7 = x at *
  clear hx
  subst hlast
  clear h hn hv
  go_enter Tryd.func7, Tryd.ntmps7
  go_wp2_with (first
    | (go_at_call 19; ((with_reducible refine HA.out.mono ?_); rintro e w1 ⟨rfl, b⟩; have B1 := Lib.hid b; clear b))
    | (go_at_call 12; ((with_reducible refine (HP.out _ (HV.out.below B1.out).d).mono ?_); rintro e w2 ⟨rfl, rfl⟩))
    | (go_at_call 13; ((with_reducible refine (HO.out _ (HV.out.below B1.out).d).mono ?_); rintro e w2 ⟨rfl, rfl⟩))
    | (go_at_call 14; ((with_reducible refine (HW.out _).mono ?_); rintro e w2 ⟨rfl, rfl⟩))
    | (go_at_call 16; ((with_reducible refine (HN.out _ (HV.out.below B1.out).d).mono ?_); rintro e w2 ⟨rfl, rfl⟩)))
  go_ret
  exact ⟨rfl, B1.out⟩

set_option maxRecDepth 100000 in
set_option maxHeartbeats 3200000 in
theorem inverse_next (y m d n p q r : Int) (h : IsDate y m d n) (h' : IsDate p q r (n + 1)) (hn : n + 1 ≤ 99999)
    (hc : (d < mlen y m ∧ p = y ∧ q = m ∧ r = d + 1) ∨ (d = mlen y m ∧ m < 12 ∧ p = y ∧ q = m + 1 ∧ r = 1) ∨ (d = mlen y m ∧ 12 ≤ m ∧ p = y + 1 ∧ q = 1 ∧ r = 1)) (w : World) (hv : VarS w) :
    Calls Tryd.prog 7 #[.int .i64 n] w fun e w' => e = .returned (.bool true) ∧ Below w.heap.size w w' := by
  have hn1 : n ≤ 99999 := by omega
  have HV := Lib.hid hv
  have HA := Lib.hid (alive_any w hv)
  have HP := Lib.hid (fun w1 h1 => parts4_in y m d n h hn1 w1 h1)
  have HP2 := Lib.hid (fun w1 h1 => parts4_in p q r (n + 1) h' hn w1 h1)
  have HO := Lib.hid (fun w1 h1 => of_date y m d n h hn1 w1 h1)
  have HW := Lib.hid (weekday_in n h.n0 hn1)
  have HW2 := Lib.hid (weekday_in (n + 1) h'.n0 hn)
  have HN := Lib.hid (fun w1 h1 => length2_ok y m (ymB_of h hn1) w1 h1)
  have n0 := h.n0
  have d0 := h.d0
  have d1 := h.d1
  have hx0 : 0 ≤ n % 7 := by omega
  have hx1 : n % 7 ≤ 6 := by omega
  have hxz : (n + 1) % 7 = if n % 7 = 6 then 0 else n % 7 + 1 := by split <;> omega
  have y0 := h.y0
  have y1 := h.y1 hn1
  have m0 := h.m0
  have m1 := h.m1
  have dd := h.d31
  obtain ⟨l0, l1⟩ := mlen_bd y m
  generalize mlen y m = l at *
  generalize hx : n % 7 = x at *
  generalize hz : (n + 1) % 7 = z at *
  clear hx hz h h' hv
  rcases hc with ⟨c, rfl, rfl, rfl⟩ | ⟨rfl, c, rfl, rfl, rfl⟩ | ⟨rfl, c, rfl, rfl, rfl⟩
  all_goals
    by_cases h6 : x = 6
  all_goals
    (first | rw [if_pos h6] at hxz | rw [if_neg h6] at hxz)
    subst hxz
  all_goals
    go_enter Tryd.func7, Tryd.ntmps7
    go_wp2_with (first
      | (go_at_call 19; ((with_reducible refine HA.out.mono ?_); rintro e w1 ⟨rfl, b⟩; have B1 := Lib.hid b; clear b))
      | (go_at_call 12; (first | with_reducible refine (HP.out _ (HV.out.below B1.out).d).mono ?_ | with_reducible refine (HP2.out _ (HV.out.below B1.out).d).mono ?_); (rintro e w2 ⟨rfl, rfl⟩))
      | (go_at_call 13; ((with_reducible refine (HO.out _ (HV.out.below B1.out).d).mono ?_); rintro e w2 ⟨rfl, rfl⟩))
      | (go_at_call 14; (first | with_reducible refine (HW.out _).mono ?_ | with_reducible refine (HW2.out _).mono ?_); (rintro e w2 ⟨rfl, rfl⟩))
      | (go_at_call 16; ((with_reducible refine (HN.out _ (HV.out.below B1.out).d).mono ?_); rintro e w2 ⟨rfl, rfl⟩)))
    go_ret
    exact ⟨rfl, B1.out⟩

theorem inverse_law (n : Int) (w : World) (hv : VarS w) :
    Calls Tryd.prog 7 #[.int .i64 n] w fun e w' => e = .returned (.bool true) ∧ Below w.heap.size w w' := by
  by_cases ho : n < 0 ∨ 99999 < n
  · exact inverse_out n ho w hv
  · obtain ⟨y, m, d, h⟩ := isDate_of n (by omega)
    by_cases hl : n = 99999
    · exact inverse_last y m d n h (by omega) hl w hv
    · have hle := h.d1
      by_cases hd : d < mlen y m
      · exact inverse_next y m d n _ _ _ h (h.next_d hd) (by omega) (.inl ⟨hd, rfl, rfl, rfl⟩) w hv
      · by_cases hm : m < 12
        · exact inverse_next y m d n _ _ _ h (h.next_m (by omega) hm) (by omega) (.inr (.inl ⟨by omega, hm, rfl, rfl, rfl⟩)) w hv
        · exact inverse_next y m d n _ _ _ h (h.next_y (by omega) hm) (by omega) (.inr (.inr ⟨by omega, by omega, rfl, rfl, rfl⟩)) w hv
end Go.Proofs.YteigcgncbkjmaaaDoor

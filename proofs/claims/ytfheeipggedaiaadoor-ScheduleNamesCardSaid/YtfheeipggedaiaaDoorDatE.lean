/- Layer 3: the reference's walks: Parts, Weekday, AddMonths. -/
import Derived.Test.YtfheeipggedaiaaDoorDatD
namespace Go.Proofs.YtfheeipggedaiaaDoor
open Go Go.RowKit

set_option maxRecDepth 100000 in
set_option maxHeartbeats 800000 in
theorem refParts_in (Y M D n : Int) (h : IsDate Y M D n) (hn : n ≤ 99999) (w : World) :
    Calls Tryd.prog 65 #[.int .i64 n] w fun e w' => e = .returned (.tuple #[.int .i64 Y, .int .i64 M, .int .i64 D, .int .i64 0]) ∧ w = w' := by
  have HI := Lib.hid h
  have n0 := h.n0
  have HD := Lib.hid (day_any n true (by simp; omega))
  have HL := Lib.hid long_any
  clear h
  go_enter Tryd.func65, Tryd.ntmps65
  go_wp2_with (go_at_call 36; ((with_reducible refine (HD.out _).mono ?_); rintro e w' ⟨rfl, rfl⟩))
  go_loop [0, 6, 7] (fun a y m => ∃ (d z : Int) (k : Nat), a = .int .i64 d ∧ y = .int .i64 z ∧ m = .int .i64 ((k : Int) + 1) ∧ 1900 ≤ z ∧ k ≤ 11 ∧ 0 ≤ d ∧ n = foy z + mo z k + d) (fun a _ _ => (intOf a).toNat)
  case atStart => exact ⟨n, 1900, 0, rfl, rfl, rfl, by omega, by omega, n0, by rw [foy_1900]; simp [mo]⟩
  case round =>
    obtain ⟨d, z, k, rfl, rfl, rfl, z0, k1, d0, he⟩ := hrel
    have hz3 : z ≤ 3000 := by
      have := (mo_le z k).2
      unfold foy at he; omega
    have hd3 : d ≤ 99999 := by
      have := (mo_le z k).2
      have := foy_mono 1900 z z0
      rw [foy_1900] at this; omega
    obtain ⟨l0, l1⟩ := mlen_bd z ((k : Int) + 1)
    have HC := Lib.hid (HL.out z ((k : Int) + 1))
    by_cases hge : mlen z ((k : Int) + 1) ≤ d
    · have HS : Hid (n = foy z + mo z (k + 1) + (d - mlen z ((k : Int) + 1))) := by
        have e : mo z (k + 1) = mo z k + mlen z ((k : Int) + 1) := rfl
        show _ = _
        rw [e]; omega
      have HT : k = 11 → Hid (n = foy (z + 1) + mo (z + 1) 0 + (d - mlen z ((k : Int) + 1))) := by
        intro hk; subst hk
        have h1 : n = foy z + mo z 12 + (d - mlen z (((11 : Nat) : Int) + 1)) := HS.out
        have h2 := foy_succ z
        show _ = _
        rw [h2, show mo (z + 1) 0 = 0 from rfl]; omega
      clear he HI HL
      generalize mlen z ((k : Int) + 1) = l at *
      by_cases hk : k = 11
      · have HT2 := HT hk
        clear HT
        subst hk
        rw [show ((11 : Nat) : Int) + 1 = 12 from rfl] at HC
        clear HS
        go_wp2_with (go_at_call 66; ((with_reducible refine (HC.out _).mono ?_); rintro e w' ⟨rfl, rfl⟩))
        go_round
        case rel => exact ⟨d - l, z + 1, 0, rfl, rfl, rfl, by omega, by omega, by omega, HT2.out⟩
        case measure => simp [intOf]; omega
      · clear HT
        have hk' : (k : Int) + 1 + 1 ≤ 12 := by omega
        go_wp2_with (go_at_call 66; ((with_reducible refine (HC.out _).mono ?_); rintro e w' ⟨rfl, rfl⟩))
        go_round
        case rel => exact ⟨d - l, z, k + 1, rfl, rfl, int_eqD (by omega), by omega, by omega, by omega, HS.out⟩
        case measure => simp [intOf]; omega
    · have hdate : IsDate z ((k : Int) + 1) (d + 1) n := ⟨z0, by omega, by omega, by omega, by omega, by rw [show ((k : Int) + 1 - 1).toNat = k by omega]; omega⟩
      obtain ⟨e1, e2, e3⟩ := hdate.uniq HI.out
      have HE1 := Lib.hid e1
      have HE2 := Lib.hid e2
      have HE3 := Lib.hid e3
      have hlt : d < mlen z ((k : Int) + 1) := by omega
      clear hge hdate e1 e2 e3 he HI HL
      generalize mlen z ((k : Int) + 1) = l at *
      go_wp2_with (go_at_call 66; ((with_reducible refine (HC.out _).mono ?_); rintro e w' ⟨rfl, rfl⟩))
      refine bodyPost_ret (results_tmp4 rfl _ _ _) rfl ?_
      exact ⟨by rw [← HE1.out, ← HE2.out, ← HE3.out]; rfl, rfl⟩
set_option maxHeartbeats 400000 in
theorem refParts_out (n : Int) (h : n < 0 ∨ 99999 < n) (w : World) :
    Calls Tryd.prog 65 #[.int .i64 n] w fun e w' => e = .returned (.tuple #[.int .i64 0, .int .i64 0, .int .i64 0, .int .i64 2]) ∧ w = w' := by
  have HD := Lib.hid (day_any n false (by simp; omega))
  clear h
  go_enter Tryd.func65, Tryd.ntmps65
  go_wp2_with (go_at_call 36; ((with_reducible refine (HD.out _).mono ?_); rintro e w' ⟨rfl, rfl⟩))
  refine bodyPost_ret (results_tmp4 rfl _ _ _) rfl ?_
  exact ⟨rfl, rfl⟩

set_option maxHeartbeats 400000 in
theorem refAddMonths_out (n k : Int) (b : Bool) (h : n < 0 ∨ 99999 < n ∨ k < -4000 ∨ 4000 < k) (w : World) :
    Calls Tryd.prog 53 #[.int .i64 n, .int .i64 k, .bool b] w fun e w' => e = .returned (.tuple #[.int .i64 0, .int .i64 2]) ∧ w = w' := by
  by_cases hn : 0 ≤ n ∧ n ≤ 99999
  · obtain ⟨Y, M, D, hd⟩ := isDate_of n hn.1
    have HP := Lib.hid (refParts_in Y M D n hd hn.2)
    have HN := Lib.hid (in_any k (-4000) 4000 false (by simp; omega))
    clear h hn hd
    go_enter Tryd.func53, Tryd.ntmps53
    go_wp2_with (first
      | (go_at_call 65; ((with_reducible refine (HP.out _).mono ?_); rintro e w' ⟨rfl, rfl⟩))
      | (go_at_call 37; ((with_reducible refine (HN.out _).mono ?_); rintro e w' ⟨rfl, rfl⟩)))
    go_ret2
    exact ⟨rfl, rfl⟩
  · have HP := Lib.hid (refParts_out n (by omega))
    clear hn h
    go_enter Tryd.func53, Tryd.ntmps53
    go_wp2_with (go_at_call 65; ((with_reducible refine (HP.out _).mono ?_); rintro e w' ⟨rfl, rfl⟩))
    go_ret2
    exact ⟨rfl, rfl⟩

theorem mv_of {y m k z x : Int} (h : 12 * z + x = 12 * y + m + k) (x0 : 1 ≤ x) (x1 : x ≤ 12) : mvY y m k = z ∧ mvM y m k = x := by
  unfold mvY mvM; omega
set_option maxRecDepth 100000 in
set_option maxHeartbeats 1600000 in
theorem refAddMonths_in (Y M D n K : Int) (b : Bool) (h : IsDate Y M D n) (hn : n ≤ 99999) (k0 : -4000 ≤ K) (k1 : K ≤ 4000) (w : World) :
    Calls Tryd.prog 53 #[.int .i64 n, .int .i64 K, .bool b] w fun e w' => e = .returned (.tuple #[.int .i64 (amV Y M D K b), .int .i64 (amE Y M D K b)]) ∧ w = w' := by
  have HP := Lib.hid (refParts_in Y M D n h hn)
  have HN := Lib.hid (in_any K (-4000) 4000 true (by simp; omega))
  have HL := Lib.hid long_any
  have HO := Lib.hid (refOf_anyD (mvY Y M K) (mvM Y M K) (amD Y M D K b))
  have hAE : amE Y M D K b = if okB (mvY Y M K) (mvM Y M K) (amD Y M D K b) then 0 else 40 := rfl
  have hAV : amV Y M D K b = if okB (mvY Y M K) (mvM Y M K) (amD Y M D K b) then ofV (mvY Y M K) (mvM Y M K) (amD Y M D K b) else 0 := by
    unfold amV ofV; cases okB (mvY Y M K) (mvM Y M K) (amD Y M D K b) <;> rfl
  have hOE : ofE (mvY Y M K) (mvM Y M K) (amD Y M D K b) = if okB (mvY Y M K) (mvM Y M K) (amD Y M D K b) then 0 else 2 := rfl
  have hDD : amD Y M D K b = if b && decide (D = mlen Y M) then mlen (mvY Y M K) (mvM Y M K) else min D (mlen (mvY Y M K) (mvM Y M K)) := rfl
  rw [hOE] at HO
  rw [hAV, hAE]
  generalize ofV (mvY Y M K) (mvM Y M K) (amD Y M D K b) = v at *
  generalize okB (mvY Y M K) (mvM Y M K) (amD Y M D K b) = ok at *
  have HLM := Lib.hid (long_any Y M)
  have hdd : (b = true ∧ D = mlen Y M ∧ amD Y M D K b = mlen (mvY Y M K) (mvM Y M K)) ∨ ((b = false ∨ (D == mlen Y M) = false) ∧ amD Y M D K b = min D (mlen (mvY Y M K) (mvM Y M K))) := by
    rw [hDD]
    cases b with
    | false => right; exact ⟨.inl rfl, rfl⟩
    | true =>
      by_cases e : D = mlen Y M
      · left; rw [decide_eq_true e]; exact ⟨rfl, e, rfl⟩
      · right; rw [decide_eq_false e]; exact ⟨.inr (by rw [beq_eq_false_iff_ne]; exact e), rfl⟩
  have HDD := Lib.hid hdd
  have HMV := Lib.hid (fun (z x : Int) (h : 12 * z + x = 12 * Y + M + K) (x0 : 1 ≤ x) (x1 : x ≤ 12) => mv_of h x0 x1)
  have d0 := h.d0; have d31 := h.d31; have y0 := h.y0; have y1 := h.y1 hn; have m0 := h.m0; have m1 := h.m1
  obtain ⟨lM0, lM1⟩ := mlen_bd Y M
  clear hAE hAV hOE hDD h hdd
  generalize amD Y M D K b = dd at *
  generalize mlen Y M = lM at *
  generalize hlx : (D == lM) = lx at *
  go_enter Tryd.func53, Tryd.ntmps53
  go_wp2_with (first
    | (go_at_call 65; ((with_reducible refine (HP.out _).mono ?_); rintro e w' ⟨rfl, rfl⟩))
    | (go_at_call 37; ((with_reducible refine (HN.out _).mono ?_); rintro e w' ⟨rfl, rfl⟩))
    | (go_at_call 66; ((with_reducible refine (HLM.out _).mono ?_); rintro e w' ⟨rfl, rfl⟩)))
  go_loop [1, 8, 9] (fun a y m => ∃ (j z x : Int), a = .int .i64 j ∧ y = .int .i64 z ∧ m = .int .i64 x ∧ 12 * z + x + j = 12 * Y + M + K ∧ 1 ≤ x ∧ x ≤ 12 ∧ -4000 ≤ j ∧ j ≤ 4000 ∧ (0 ≤ j ∨ j = K)) (fun a _ _ => (intOf a).toNat)
  case atStart => exact ⟨K, Y, M, rfl, rfl, rfl, by omega, m0, m1, k0, k1, .inr rfl⟩
  case round =>
    obtain ⟨j, z, x, rfl, rfl, rfl, he, x0, x1, j0, j1, hj⟩ := hrel
    have HE := Lib.hid he
    have z0 : 1000 ≤ z := by omega
    have z1 : z ≤ 4000 := by omega
    clear he
    by_cases hp : 0 < j
    · by_cases hx : 12 < x + 1
      · go_wp2
        go_round
        case rel => exact ⟨j - 1, z + 1, 1, rfl, rfl, rfl, by have := HE.out; omega, by omega, by omega, by omega, by omega, .inl (by omega)⟩
        case measure => simp [intOf]; omega
      · have hx' : x + 1 ≤ 12 := by omega
        clear hx
        go_wp2
        go_round
        case rel => exact ⟨j - 1, z, x + 1, rfl, rfl, rfl, by have := HE.out; omega, by omega, by omega, by omega, by omega, .inl (by omega)⟩
        case measure => simp [intOf]; omega
    · have hp' : j ≤ 0 := by omega
      clear hp hj
      go_wp2
      go_loop [1, 8, 9] (fun a y m => ∃ (j z x : Int), a = .int .i64 j ∧ y = .int .i64 z ∧ m = .int .i64 x ∧ 12 * z + x + j = 12 * Y + M + K ∧ 1 ≤ x ∧ x ≤ 12 ∧ -4000 ≤ j ∧ j ≤ 0) (fun a _ _ => (- intOf a).toNat)
      case atStart => exact ⟨j, z, x, rfl, rfl, rfl, HE.out, x0, x1, j0, hp'⟩
      case round =>
        clear HE z0 z1 x0 x1 j0 j1 hp'
        obtain ⟨j, z, x, rfl, rfl, rfl, he, x0, x1, j0, j1⟩ := hrel
        have HE := Lib.hid he
        have z0 : 1000 ≤ z := by omega
        have z1 : z ≤ 4000 := by omega
        clear he
        by_cases hp : j < 0
        · by_cases hx : x - 1 < 1
          · go_wp2
            go_round
            case rel => exact ⟨j + 1, z - 1, 12, rfl, rfl, rfl, by have := HE.out; omega, by omega, by omega, by omega, by omega⟩
            case measure => simp [intOf]; omega
          · have hx' : 1 ≤ x - 1 := by omega
            clear hx
            go_wp2
            go_round
            case rel => exact ⟨j + 1, z, x - 1, rfl, rfl, rfl, by have := HE.out; omega, by omega, by omega, by omega, by omega⟩
            case measure => simp [intOf]; omega
        · obtain rfl : j = 0 := by omega
          obtain ⟨e1, e2⟩ := HMV.out z x (by have := HE.out; omega) x0 x1
          have hdd := HDD.out
          rw [e1, e2] at HO hdd
          obtain ⟨l0, l1⟩ := mlen_bd z x
          have HC := Lib.hid (HL.out z x)
          clear e1 e2 HDD HMV HL HE hp
          generalize mlen z x = l at *
          have hcase : ((b = true ∧ lx = true ∧ D ≤ l ∧ l = dd) ∨ (b = true ∧ lx = true ∧ l < D ∧ l = dd)) ∨ ((b = false ∧ D ≤ l ∧ D = dd) ∨ (b = false ∧ l < D ∧ l = dd)) ∨ ((b = true ∧ lx = false ∧ D ≤ l ∧ D = dd) ∨ (b = true ∧ lx = false ∧ l < D ∧ l = dd)) := by
            rcases hdd with ⟨h1, h2, h3⟩ | ⟨h2, h3⟩
            · left
              have hlt : lx = true := by rw [← hlx, beq_iff_eq]; exact h2
              rcases Int.lt_or_le l D with g | g
              · exact .inr ⟨h1, hlt, g, h3.symm⟩
              · exact .inl ⟨h1, hlt, g, h3.symm⟩
            · right
              rcases Int.lt_or_le l D with g | g
              · rw [Int.min_eq_right (by omega)] at h3
                cases b with
                | false => exact .inl (.inr ⟨rfl, g, h3.symm⟩)
                | true => rcases h2 with h2 | h2; cases h2; exact .inr (.inr ⟨rfl, h2, g, h3.symm⟩)
              · rw [Int.min_eq_left g] at h3
                cases b with
                | false => exact .inl (.inl ⟨rfl, g, h3.symm⟩)
                | true => rcases h2 with h2 | h2; cases h2; exact .inr (.inl ⟨rfl, h2, g, h3.symm⟩)
          clear hdd hlx
          cases ok
          all_goals
            rcases hcase with (⟨rfl, rfl, g, rfl⟩ | ⟨rfl, rfl, g, rfl⟩) | (⟨rfl, g, rfl⟩ | ⟨rfl, g, rfl⟩) | (⟨rfl, rfl, g, rfl⟩ | ⟨rfl, rfl, g, rfl⟩)
            all_goals
              go_wp2_with (first
                | (go_at_call 66; ((with_reducible refine (HC.out _).mono ?_); rintro e w' ⟨rfl, rfl⟩))
                | (go_at_call 67; ((with_reducible refine (HO.out _).mono ?_); rintro e w' ⟨rfl, rfl⟩)))
              go_ret2
              exact ⟨rfl, rfl⟩
end Go.Proofs.YtfheeipggedaiaaDoor

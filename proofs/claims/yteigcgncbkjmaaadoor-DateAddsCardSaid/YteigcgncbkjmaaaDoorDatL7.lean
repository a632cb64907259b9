/- The walk of the law DateAdds. -/
import Derived.Test.YteigcgncbkjmaaaDoorDatI
namespace Go.Proofs.YteigcgncbkjmaaaDoor
open Go Go.RowKit

/-- What AddMonths's answer fulfils. -/
structure Added (y m d n k : Int) (b : Bool) (p q s r v : Int) : Prop where
  date : IsDate p q s r
  le : r ≤ 99999
  k12 : 12 * p + q - 12 * y - m = k
  q0 : 1 ≤ q
  q1 : q ≤ 12
  back : (amV p q s (-k) false = v ∧ amE p q s (-k) false = 0) ∧ (s = d → v = n)
  zero : k = 0 → r = n
theorem mv_back (y m k : Int) (m0 : 1 ≤ m) (m1 : m ≤ 12) : mvY (mvY y m k) (mvM y m k) (-k) = y ∧ mvM (mvY y m k) (mvM y m k) (-k) = m := by
  unfold mvY mvM; omega
theorem added_of (y m d n k : Int) (b : Bool) (h : IsDate y m d n) (hn : n ≤ 99999) (he : amE y m d k b = 0) :
    ∃ v, Added y m d n k b (mvY y m k) (mvM y m k) (amD y m d k b) (amV y m d k b) v := by
  have hok : okB (mvY y m k) (mvM y m k) (amD y m d k b) = true := by
    unfold amE at he; cases g : okB (mvY y m k) (mvM y m k) (amD y m d k b)
    · rw [g] at he; simp at he
    · rfl
  have hv : amV y m d k b = dayI (mvY y m k) (mvM y m k) (amD y m d k b) := by unfold amV ofV; rw [if_pos hok]
  obtain ⟨hi, hl⟩ := okB_date hok
  obtain ⟨b1, b2⟩ := mv_back y m k h.m0 h.m1
  have hD : amD (mvY y m k) (mvM y m k) (amD y m d k b) (-k) false = min (amD y m d k b) (mlen y m) := by
    show (if false && _ then _ else _) = _
    rw [b1, b2]; rfl
  have hle : min (amD y m d k b) (mlen y m) ≤ d := by
    have := h.d1
    unfold amD; split
    · next g => simp at g; omega
    · omega
  have h1 : 1 ≤ min (amD y m d k b) (mlen y m) := by have := hi.d0; have := mlen_bd y m; omega
  have hlm : min (amD y m d k b) (mlen y m) ≤ mlen y m := Int.min_le_right _ _
  have hib : IsDate y m (min (amD y m d k b) (mlen y m)) (dayI y m (min (amD y m d k b) (mlen y m))) :=
    ⟨h.y0, h.m0, h.m1, h1, hlm, by unfold dayI; omega⟩
  have hbn : dayI y m (min (amD y m d k b) (mlen y m)) ≤ 99999 := by
    have := h.eq; unfold dayI; omega
  refine ⟨dayI y m (min (amD y m d k b) (mlen y m)), ?_, ?_, ?_, hi.m0, hi.m1, ⟨⟨?_, ?_⟩, ?_⟩, ?_⟩
  · rw [hv]; exact hi
  · rw [hv]; exact hl
  · unfold mvY mvM; omega
  · unfold amV; rw [b1, b2, hD]; exact hib.of_v hbn
  · unfold amE; rw [b1, b2, hD, if_pos (hib.ok hbn)]
  · intro hs
    have : min (amD y m d k b) (mlen y m) = d := by rw [hs]; have := h.d1; omega
    rw [this]; exact h.day_eq
  · rintro rfl
    have e1 : mvY y m 0 = y := by have := h.m0; have := h.m1; unfold mvY; omega
    have e2 : mvM y m 0 = m := by have := h.m0; have := h.m1; unfold mvM; omega
    have e3 : amD y m d 0 b = d := by
      unfold amD; rw [e1, e2]; have := h.d1; split
      · next g => simp at g; omega
      · omega
    rw [hv, e1, e2, e3]; exact h.day_eq
theorem amD_cases (y m d k : Int) (b : Bool) (hd : d ≤ mlen y m) (l t s : Int) (hl : mlen y m = l) (ht : mlen (mvY y m k) (mvM y m k) = t) (hs : amD y m d k b = s) :
    (b = false ∧ d ≤ t ∧ s = d) ∨ (b = false ∧ t < d ∧ s = t) ∨ (b = true ∧ d = l ∧ d ≤ t ∧ s = t) ∨ (b = true ∧ d = l ∧ t < d ∧ s = t) ∨ (b = true ∧ d < l ∧ d ≤ t ∧ s = d) ∨ (b = true ∧ d < l ∧ t < d ∧ s = t) := by
  subst hl ht hs
  unfold amD
  cases b
  · simp; omega
  · by_cases h : d = mlen y m
    · simp [h]; omega
    · simp [h]; omega

set_option maxRecDepth 100000 in
set_option maxHeartbeats 1600000 in
theorem adds_out (n k : Int) (b : Bool) (h : n < 0 ∨ 99999 < n) (w : World) (hv : VarS w) :
    Calls Tryd.prog 9 #[.int .i64 n, .int .i64 k, .bool b] w fun e w' => e = .returned (.bool true) ∧ Below w.heap.size w w' := by
  have HA := Lib.hid (alive_any w hv)
  have HP := Lib.hid (parts4_out n h)
  have HM := Lib.hid (addMonths_out n k b (by omega))
  clear h hv
  go_enter Tryd.func9, Tryd.ntmps9
  go_wp2_with (first
    | (go_at_call 19; ((with_reducible refine HA.out.mono ?_); rintro e w1 ⟨rfl, b⟩; have B1 := Lib.hid b; clear b))
    | (go_at_call 15; ((with_reducible refine (HM.out _).mono ?_); rintro e w2 ⟨rfl, rfl⟩))
    | (go_at_call 12; ((with_reducible refine (HP.out _).mono ?_); rintro e w2 ⟨rfl, rfl⟩)))
  go_ret
  exact ⟨rfl, B1.out⟩

set_option maxRecDepth 100000 in
set_option maxHeartbeats 1600000 in
theorem adds_far (y m d n k : Int) (b : Bool) (h : IsDate y m d n) (hn : n ≤ 99999) (hk : k < -4000 ∨ 4000 < k) (w : World) (hv : VarS w) :
    Calls Tryd.prog 9 #[.int .i64 n, .int .i64 k, .bool b] w fun e w' => e = .returned (.bool true) ∧ Below w.heap.size w w' := by
  have HV := Lib.hid hv
  have HA := Lib.hid (alive_any w hv)
  have HP := Lib.hid (fun w1 h1 => parts4_in y m d n h hn w1 h1)
  have HM := Lib.hid (addMonths_out n k b (by omega))
  have hk' : k < -4000 ∨ (-4000 ≤ k ∧ 4000 < k) := by omega
  clear h hn hk hv
  rcases hk' with hk | ⟨hk, hk2⟩
  all_goals
    go_enter Tryd.func9, Tryd.ntmps9
    go_wp2_with (first
      | (go_at_call 19; ((with_reducible refine HA.out.mono ?_); rintro e w1 ⟨rfl, b⟩; have B1 := Lib.hid b; clear b))
      | (go_at_call 15; ((with_reducible refine (HM.out _).mono ?_); rintro e w2 ⟨rfl, rfl⟩))
      | (go_at_call 12; ((with_reducible refine (HP.out _ (HV.out.below B1.out).d).mono ?_); rintro e w2 ⟨rfl, rfl⟩)))
    go_ret
    exact ⟨rfl, B1.out⟩

set_option maxRecDepth 100000 in
set_option maxHeartbeats 1600000 in
theorem adds_bad (y m d n k : Int) (b : Bool) (h : IsDate y m d n) (hn : n ≤ 99999) (k0 : -4000 ≤ k) (k1 : k ≤ 4000) (he : amV y m d k b = 0 ∧ amE y m d k b = 40) (w : World) (hv : VarS w) :
    Calls Tryd.prog 9 #[.int .i64 n, .int .i64 k, .bool b] w fun e w' => e = .returned (.bool true) ∧ Below w.heap.size w w' := by
  have HV := Lib.hid hv
  have HA := Lib.hid (alive_any w hv)
  have HP := Lib.hid (fun w1 h1 => parts4_in y m d n h hn w1 h1)
  have HM := Lib.hid (fun w1 h1 => addMonths_at y m d n k 0 40 b h hn k0 k1 he.1 he.2 w1 h1)
  clear h hn hv he k0 k1
  go_enter Tryd.func9, Tryd.ntmps9
  go_wp2_with (first
    | (go_at_call 19; ((with_reducible refine HA.out.mono ?_); rintro e w1 ⟨rfl, b⟩; have B1 := Lib.hid b; clear b))
    | (go_at_call 15; ((with_reducible refine (HM.out _ (HV.out.below B1.out).d).mono ?_); rintro e w2 ⟨rfl, rfl⟩))
    | (go_at_call 12; ((with_reducible refine (HP.out _ (HV.out.below B1.out).d).mono ?_); rintro e w2 ⟨rfl, rfl⟩)))
  go_ret
  exact ⟨rfl, B1.out⟩

set_option maxRecDepth 100000 in
set_option maxHeartbeats 6400000 in
theorem adds_good (y m d n k : Int) (b : Bool) (h : IsDate y m d n) (hn : n ≤ 99999) (k0 : -4000 ≤ k) (k1 : k ≤ 4000) (he : amE y m d k b = 0) (w : World) (hv : VarS w) :
    Calls Tryd.prog 9 #[.int .i64 n, .int .i64 k, .bool b] w fun e w' => e = .returned (.bool true) ∧ Below w.heap.size w w' := by
  obtain ⟨v, g⟩ := added_of y m d n k b h hn he
  have hs := fun l t s => amD_cases y m d k b h.d1 l t s
  have HV := Lib.hid hv
  have HA := Lib.hid (alive_any w hv)
  have HP := Lib.hid (fun w1 h1 => parts4_in y m d n h hn w1 h1)
  have HM := Lib.hid (fun w1 h1 => addMonths_at y m d n k _ 0 b h hn k0 k1 rfl he w1 h1)
  have HN := Lib.hid (fun w1 h1 => length2_ok y m ((ymB_iff y m).2 ⟨h.y0, h.y1 hn, h.m0, h.m1⟩) w1 h1)
  have hmin : min d (mlen (mvY y m k) (mvM y m k)) ≤ 31 := by have := h.d31; omega
  generalize mvY y m k = p at *
  generalize mvM y m k = q at *
  generalize amD y m d k b = s at *
  generalize amV y m d k b = r at *
  have HP2 := Lib.hid (fun w1 h1 => parts4_in p q s r g.date g.le w1 h1)
  have HN2 := Lib.hid (fun w1 h1 => length2_ok p q ((ymB_iff p q).2 ⟨g.date.y0, g.date.y1 g.le, g.q0, g.q1⟩) w1 h1)
  have HM2 := Lib.hid (fun w1 h1 => addMonths_at p q s r (-k) v 0 false g.date g.le (by omega) (by omega) g.back.1.1 g.back.1.2 w1 h1)
  have hs := hs (mlen y m) (mlen p q) s rfl rfl rfl
  have y0 := h.y0
  have y1 := h.y1 hn
  have m0 := h.m0
  have m1 := h.m1
  have p0 := g.date.y0
  have p1 := g.date.y1 g.le
  have q0 := g.q0
  have q1 := g.q1
  have k12 := g.k12
  have d0 := h.d0
  have dd := h.d31
  have s0 := g.date.d0
  have s1 := g.date.d31
  have hb := g.back.2
  have hz := g.zero
  obtain ⟨l0, l1⟩ := mlen_bd y m
  obtain ⟨t0, t1⟩ := mlen_bd p q
  generalize mlen y m = l at *
  generalize mlen p q = t at *
  clear h hn hv he g hmin
  have k3 := Int.le_of_eq k12
  have k4 := Int.le_of_eq k12.symm
  clear k12
  rcases hs with ⟨rfl, c1, c2⟩ | ⟨rfl, c1, c2⟩ | ⟨rfl, c0, c1, c2⟩ | ⟨rfl, c0, c1, c2⟩ | ⟨rfl, c0, c1, c2⟩ | ⟨rfl, c0, c1, c2⟩
  all_goals
    have c3 := Int.le_of_eq c2
    have c4 := Int.le_of_eq c2.symm
    try (have c5 := Int.le_of_eq c0; have c6 := Int.le_of_eq c0.symm; clear c0)
    clear c2
    obtain ⟨hs1, hs2⟩ | hsd : (s ≤ d ∧ d ≤ s) ∨ s ≠ d := by omega
  all_goals
    obtain ⟨hk1, hk2⟩ | hkz : (k ≤ 0 ∧ 0 ≤ k) ∨ k ≠ 0 := by omega
  all_goals
    try (have hb1 := Int.le_of_eq (hb (by omega)); have hb2 := Int.le_of_eq (hb (by omega)).symm)
    try (have hz1 := Int.le_of_eq (hz (by omega)); have hz2 := Int.le_of_eq (hz (by omega)).symm)
  all_goals try (exfalso; omega)
  all_goals
    clear hb hz
  all_goals
    go_enter Tryd.func9, Tryd.ntmps9
    go_wp2_with (first
      | (go_at_call 19; ((with_reducible refine HA.out.mono ?_); rintro e w1 ⟨rfl, b⟩; have B1 := Lib.hid b; clear b))
      | (go_at_call 15; (first | with_reducible refine (HM.out _ (HV.out.below B1.out).d).mono ?_ | with_reducible refine (HM2.out _ (HV.out.below B1.out).d).mono ?_); (rintro e w2 ⟨rfl, rfl⟩))
      | (go_at_call 16; (first | with_reducible refine (HN.out _ (HV.out.below B1.out).d).mono ?_ | with_reducible refine (HN2.out _ (HV.out.below B1.out).d).mono ?_); (rintro e w2 ⟨rfl, rfl⟩))
      | (go_at_call 12; (first | with_reducible refine (HP.out _ (HV.out.below B1.out).d).mono ?_ | with_reducible refine (HP2.out _ (HV.out.below B1.out).d).mono ?_); (rintro e w2 ⟨rfl, rfl⟩)))
    go_ret
    first | exact ⟨rfl, B1.out⟩ | exact ⟨ret_bool (beq_iff_eq.2 (by omega)), B1.out⟩
theorem adds_law (n k : Int) (b : Bool) (w : World) (hv : VarS w) :
    Calls Tryd.prog 9 #[.int .i64 n, .int .i64 k, .bool b] w fun e w' => e = .returned (.bool true) ∧ Below w.heap.size w w' := by
  by_cases ho : n < 0 ∨ 99999 < n
  · exact adds_out n k b ho w hv
  · obtain ⟨y, m, d, h⟩ := isDate_of n (by omega)
    by_cases hk : k < -4000 ∨ 4000 < k
    · exact adds_far y m d n k b h (by omega) hk w hv
    · cases hok : okB (mvY y m k) (mvM y m k) (amD y m d k b)
      · exact adds_bad y m d n k b h (by omega) (by omega) (by omega) ⟨by unfold amV ofV; rw [hok]; rfl, by unfold amE; rw [hok]; rfl⟩ w hv
      · exact adds_good y m d n k b h (by omega) (by omega) (by omega) (by unfold amE; rw [if_pos hok]) w hv
end Go.Proofs.YteigcgncbkjmaaaDoor

/- Layer 4: the program's walks: valid calendars, rolled days, counts. -/
import Derived.Test.YtfheeipggedaiaaDoorCalD
import Derived.WalkSpells
import Derived.WalkLawsBesides
namespace Go.Proofs.YtfheeipggedaiaaDoor
open Go Go.RowKit

theorem dys_day (s : Int) (k : Nat) : ∀ (d : Int), At s k d → ∀ x ∈ dys s k d, 0 ≤ x ∧ x ≤ 99999 := by
  induction k with
  | zero => intro d _ x hx; simp [dys] at hx
  | succ k ih =>
    intro d ha x hx
    rcases List.mem_cons.1 hx with rfl | hx
    · exact ha.day
    · exact ih _ ha.next x hx
theorem nth_any (B : Nat) (p : Int → Bool) (s d n : Int) (k : Nat) (v e : Int) (w : World) (hB : BizAt w B p) (ha : At s k d) (n0 : 1 ≤ n) (n1 : n ≤ 100000) (hv : nV (nthL p (dys s k d) n) = v) (he : nE (nthL p (dys s k d) n) = e) :
    Calls Tryd.prog 56 #[.func (.func 58) #[] #[.pointer (some ⟨B, 0, none⟩)], .int .i64 d, .int .i64 s, .int .i64 n] w fun r w' => r = .returned (.tuple #[.int .i64 v, .int .i64 e]) ∧ Below w.heap.size w w' := by
  have h := callsIn_wide.1 (nth_in B p s d n k _ w hB ha n0 n1 rfl (dys_day s k d ha))
  rw [hv, he] at h
  exact h

/-- S tells which days are of the month of a day. -/
def SmIs (day : Int) (S : Int → Bool) : Prop := ∀ t y m d y' m' d', IsDate y m d day → IsDate y' m' d' t → S t = (decide (y = y') && decide (m = m'))
theorem smIs_ex (day : Int) (h0 : 0 ≤ day) : ∃ S, SmIs day S := by
  obtain ⟨y, m, d, h⟩ := isDate_of day h0
  refine ⟨fun t => @decide (∃ d', IsDate y m d' t) (Classical.propDecidable _), fun t y1 m1 d1 y' m' d' h1 h' => ?_⟩
  obtain ⟨rfl, rfl, rfl⟩ := h.uniq h1
  by_cases e : ∃ d', IsDate y m d' t
  · obtain ⟨d2, h2⟩ := e
    obtain ⟨rfl, rfl, rfl⟩ := h2.uniq h'
    simp; exact ⟨_, h2⟩
  · have : ¬ (y = y' ∧ m = m') := by rintro ⟨rfl, rfl⟩; exact e ⟨_, h'⟩
    simp only [e, decide_false]
    symm
    rw [Bool.and_eq_false_iff, decide_eq_false_iff_not, decide_eq_false_iff_not]
    by_cases hy : y = y'
    · exact .inr (fun hm => this ⟨hy, hm⟩)
    · exact .inl hy

set_option maxHeartbeats 800000 in
theorem sameMonth_any (a b : Int) (S : Int → Bool) (r : Bool) (hS : SmIs a S) (a0 : 0 ≤ a) (a1 : a ≤ 99999) (b0 : 0 ≤ b) (b1 : b ≤ 99999) (hr : S b = r) (w : World) (hv : VarD w) :
    Calls Tryd.prog 57 #[.int .i64 a, .int .i64 b] w fun e w' => e = .returned (.bool r) ∧ w = w' := by
  obtain ⟨y, m, d, h⟩ := isDate_of a a0
  obtain ⟨y', m', d', h'⟩ := isDate_of b b0
  have HA := Lib.hid (parts4_in y m d a h a1 w hv)
  have HB := Lib.hid (parts4_in y' m' d' b h' b1 w hv)
  have HS : Hid (r = (decide (y = y') && decide (m = m'))) := by show _ = _; rw [← hr]; exact hS _ _ _ _ _ _ _ h h'
  clear h h' hS hv hr
  go_enter Tryd.func57, Tryd.ntmps57
  go_wp2_with (first
    | (go_at_call 70; ((with_reducible refine HA.out.mono ?_); rintro e w' ⟨rfl, rfl⟩))
    | (go_at_call 70; ((with_reducible refine HB.out.mono ?_); rintro e w' ⟨rfl, rfl⟩)))
  all_goals
    go_ret
    refine ⟨ret_boolD ?_, rfl⟩
    rw [HS.out]
    have e1 : (m == m') = decide (m = m') := by rw [Bool.eq_iff_iff]; simp
    simp_all

/-- The answer of a rule: a is the next business day in the first direction, b in the other. -/
def keepO (S : Int → Bool) (a b : Option Int) : Option Int := match a with | some t => if S t then some t else b | none => b
def fwO (p : Int → Bool) (d n : Int) : Option Int := nthL p (dys 1 (100000 - d).toNat d) n
def bwO (p : Int → Bool) (d n : Int) : Option Int := nthL p (dys (-1) (d + 1).toNat d) n
def rolO (S : Int → Bool) (p : Int → Bool) (r day : Int) : Option Int :=
  if r = 0 then some day else if r = 1 then fwO p day 1 else if r = 2 then bwO p day 1 else if r = 3 then keepO S (fwO p day 1) (bwO p day 1) else keepO S (bwO p day 1) (fwO p day 1)
theorem nthL_mem (p : Int → Bool) (l : List Int) : ∀ (n r : Int), nthL p l n = some r → r ∈ l := by
  induction l with
  | nil => intro n r h; simp [nthL] at h
  | cons d l ih =>
    intro n r h
    simp only [nthL] at h
    split at h
    · split at h
      · obtain rfl : d = r := by injection h
        simp
      · exact List.mem_cons_of_mem _ (ih _ _ h)
    · exact List.mem_cons_of_mem _ (ih _ _ h)
theorem fwO_day {p : Int → Bool} {d n r : Int} (h0 : 0 ≤ d) (h1 : d ≤ 100000) (h : fwO p d n = some r) : 0 ≤ r ∧ r ≤ 99999 := dys_day _ _ _ (At.fwd d h0 h1) r (nthL_mem _ _ _ _ h)
theorem bwO_day {p : Int → Bool} {d n r : Int} (h0 : -1 ≤ d) (h1 : d ≤ 99999) (h : bwO p d n = some r) : 0 ≤ r ∧ r ≤ 99999 := dys_day _ _ _ (At.bwd d h0 h1) r (nthL_mem _ _ _ _ h)

/-- One rule that keeps the month: the first direction's day, the other one's. -/
theorem keep_cases (S : Int → Bool) (a b : Option Int) (ha : ∀ t, a = some t → 0 ≤ t ∧ t ≤ 99999) :
    (nE a = 40 ∧ nV a = 0 ∧ keepO S a b = b) ∨ (nE a = 0 ∧ 0 ≤ nV a ∧ nV a ≤ 99999 ∧ S (nV a) = false ∧ keepO S a b = b) ∨ (nE a = 0 ∧ 0 ≤ nV a ∧ nV a ≤ 99999 ∧ S (nV a) = true ∧ keepO S a b = a) := by
  cases a with
  | none => exact .inl ⟨rfl, rfl, rfl⟩
  | some t =>
    obtain ⟨h0, h1⟩ := ha t rfl
    cases h : S t
    · exact .inr (.inl ⟨rfl, h0, h1, h, by simp [keepO, h]⟩)
    · exact .inr (.inr ⟨rfl, h0, h1, h, by simp [keepO, h]⟩)

section
variable (B : Nat) (p : Int → Bool) (S : Int → Bool) (day : Int)
/-- The walk of rolled, with a rule, out of what the two directions give. -/
def RolS (r v e : Int) (w : World) : Prop := Calls Tryd.prog 39 #[.func (.func 58) #[] #[.pointer (some ⟨B, 0, none⟩)], .int .i64 day, .int .u8 r] w fun x w' => x = .returned (.tuple #[.int .i64 v, .int .i64 e]) ∧ Below w.heap.size w w'
def NthS (s v e : Int) (w : World) : Prop := Calls Tryd.prog 56 #[.func (.func 58) #[] #[.pointer (some ⟨B, 0, none⟩)], .int .i64 day, .int .i64 s, .int .i64 1] w fun x w' => x = .returned (.tuple #[.int .i64 v, .int .i64 e]) ∧ Below w.heap.size w w'
def SamS (t : Int) (b : Bool) (w : World) : Prop := Calls Tryd.prog 57 #[.int .i64 day, .int .i64 t] w fun x w' => x = .returned (.bool b) ∧ w = w'

set_option maxHeartbeats 1600000 in
theorem rolled_none (w : World) : RolS B day 0 day 0 w := by
  show Calls _ _ _ _ _
  go_enter Tryd.func39, Tryd.ntmps39
  go_wp2
  go_ret2
  exact ⟨rfl, Below.refl _ _⟩
set_option maxHeartbeats 1600000 in
theorem rolled_next (v e : Int) (w : World) (h : NthS B day 1 v e w) : RolS B day 1 v e w := by
  have H : Hid (Calls _ _ _ _ _) := h
  clear h
  show Calls _ _ _ _ _
  go_enter Tryd.func39, Tryd.ntmps39
  go_wp2_with (go_at_call 56; ((with_reducible refine H.out.mono ?_); rintro x w' ⟨rfl, hb⟩))
  go_ret2
  exact ⟨rfl, hb⟩
set_option maxHeartbeats 1600000 in
theorem rolled_prev (v e : Int) (w : World) (h : NthS B day (-1) v e w) : RolS B day 2 v e w := by
  have H : Hid (Calls _ _ _ _ _) := h
  clear h
  show Calls _ _ _ _ _
  go_enter Tryd.func39, Tryd.ntmps39
  go_wp2_with (go_at_call 56; ((with_reducible refine H.out.mono ?_); rintro x w' ⟨rfl, hb⟩))
  go_ret2
  exact ⟨rfl, hb⟩
set_option maxHeartbeats 1600000 in
/-- Rule 3: the first direction has no day. -/
theorem rolled_3a (v2 e2 : Int) (w : World) (h : NthS B day 1 0 40 w) (h2 : ∀ w', Below w.heap.size w w' → NthS B day (-1) v2 e2 w') : RolS B day 3 v2 e2 w := by
  have H : Hid (Calls _ _ _ _ _) := h
  have H2 : Hid (∀ w', Below w.heap.size w w' → Calls _ _ _ _ _) := h2
  clear h h2
  show Calls _ _ _ _ _
  go_enter Tryd.func39, Tryd.ntmps39
  go_wp2_with (first
    | (go_at_call 56; ((with_reducible refine H.out.mono ?_); rintro x w1 ⟨rfl, hb⟩; have B1 := Lib.hid hb; clear hb))
    | (go_at_call 56; ((with_reducible refine (H2.out _ B1.out).mono ?_); rintro x w2 ⟨rfl, hb⟩; have B2 := Lib.hid (B1.out.trans (hb.mono B1.out.size)); clear hb)))
  go_ret2
  exact ⟨rfl, B2.out⟩
set_option maxHeartbeats 1600000 in
/-- Rule 3: the first direction's day is of another month. -/
theorem rolled_3b (t v2 e2 : Int) (w : World) (h : NthS B day 1 t 0 w) (hm : ∀ w', Below w.heap.size w w' → SamS day t false w') (h2 : ∀ w', Below w.heap.size w w' → NthS B day (-1) v2 e2 w') : RolS B day 3 v2 e2 w := by
  have H : Hid (Calls _ _ _ _ _) := h
  have HM : Hid (∀ w', Below w.heap.size w w' → Calls _ _ _ _ _) := hm
  have H2 : Hid (∀ w', Below w.heap.size w w' → Calls _ _ _ _ _) := h2
  clear h h2 hm
  show Calls _ _ _ _ _
  go_enter Tryd.func39, Tryd.ntmps39
  go_wp2_with (first
    | (go_at_call 56; ((with_reducible refine H.out.mono ?_); rintro x w1 ⟨rfl, hb⟩; have B1 := Lib.hid hb; clear hb))
    | (go_at_call 57; ((with_reducible refine (HM.out _ B1.out).mono ?_); rintro x w2 ⟨rfl, rfl⟩))
    | (go_at_call 56; ((with_reducible refine (H2.out _ B1.out).mono ?_); rintro x w2 ⟨rfl, hb⟩; have B2 := Lib.hid (B1.out.trans (hb.mono B1.out.size)); clear hb)))
  go_ret2
  exact ⟨rfl, B2.out⟩
set_option maxHeartbeats 1600000 in
/-- Rule 3: the first direction's day is of the same month. -/
theorem rolled_3c (t : Int) (w : World) (h : NthS B day 1 t 0 w) (hm : ∀ w', Below w.heap.size w w' → SamS day t true w') : RolS B day 3 t 0 w := by
  have H : Hid (Calls _ _ _ _ _) := h
  have HM : Hid (∀ w', Below w.heap.size w w' → Calls _ _ _ _ _) := hm
  clear h hm
  show Calls _ _ _ _ _
  go_enter Tryd.func39, Tryd.ntmps39
  go_wp2_with (first
    | (go_at_call 56; ((with_reducible refine H.out.mono ?_); rintro x w1 ⟨rfl, hb⟩; have B1 := Lib.hid hb; clear hb))
    | (go_at_call 57; ((with_reducible refine (HM.out _ B1.out).mono ?_); rintro x w2 ⟨rfl, rfl⟩)))
  go_ret2
  exact ⟨rfl, B1.out⟩
set_option maxHeartbeats 1600000 in
/-- Rule 4: the first direction has no day. -/
theorem rolled_4a (v2 e2 : Int) (w : World) (h : NthS B day (-1) 0 40 w) (h2 : ∀ w', Below w.heap.size w w' → NthS B day 1 v2 e2 w') : RolS B day 4 v2 e2 w := by
  have H : Hid (Calls _ _ _ _ _) := h
  have H2 : Hid (∀ w', Below w.heap.size w w' → Calls _ _ _ _ _) := h2
  clear h h2
  show Calls _ _ _ _ _
  go_enter Tryd.func39, Tryd.ntmps39
  go_wp2_with (first
    | (go_at_call 56; ((with_reducible refine H.out.mono ?_); rintro x w1 ⟨rfl, hb⟩; have B1 := Lib.hid hb; clear hb))
    | (go_at_call 56; ((with_reducible refine (H2.out _ B1.out).mono ?_); rintro x w2 ⟨rfl, hb⟩; have B2 := Lib.hid (B1.out.trans (hb.mono B1.out.size)); clear hb)))
  go_ret2
  exact ⟨rfl, B2.out⟩
set_option maxHeartbeats 1600000 in
/-- Rule 4: the first direction's day is of another month. -/
theorem rolled_4b (t v2 e2 : Int) (w : World) (h : NthS B day (-1) t 0 w) (hm : ∀ w', Below w.heap.size w w' → SamS day t false w') (h2 : ∀ w', Below w.heap.size w w' → NthS B day 1 v2 e2 w') : RolS B day 4 v2 e2 w := by
  have H : Hid (Calls _ _ _ _ _) := h
  have HM : Hid (∀ w', Below w.heap.size w w' → Calls _ _ _ _ _) := hm
  have H2 : Hid (∀ w', Below w.heap.size w w' → Calls _ _ _ _ _) := h2
  clear h h2 hm
  show Calls _ _ _ _ _
  go_enter Tryd.func39, Tryd.ntmps39
  go_wp2_with (first
    | (go_at_call 56; ((with_reducible refine H.out.mono ?_); rintro x w1 ⟨rfl, hb⟩; have B1 := Lib.hid hb; clear hb))
    | (go_at_call 57; ((with_reducible refine (HM.out _ B1.out).mono ?_); rintro x w2 ⟨rfl, rfl⟩))
    | (go_at_call 56; ((with_reducible refine (H2.out _ B1.out).mono ?_); rintro x w2 ⟨rfl, hb⟩; have B2 := Lib.hid (B1.out.trans (hb.mono B1.out.size)); clear hb)))
  go_ret2
  exact ⟨rfl, B2.out⟩
set_option maxHeartbeats 1600000 in
/-- Rule 4: the first direction's day is of the same month. -/
theorem rolled_4c (t : Int) (w : World) (h : NthS B day (-1) t 0 w) (hm : ∀ w', Below w.heap.size w w' → SamS day t true w') : RolS B day 4 t 0 w := by
  have H : Hid (Calls _ _ _ _ _) := h
  have HM : Hid (∀ w', Below w.heap.size w w' → Calls _ _ _ _ _) := hm
  clear h hm
  show Calls _ _ _ _ _
  go_enter Tryd.func39, Tryd.ntmps39
  go_wp2_with (first
    | (go_at_call 56; ((with_reducible refine H.out.mono ?_); rintro x w1 ⟨rfl, hb⟩; have B1 := Lib.hid hb; clear hb))
    | (go_at_call 57; ((with_reducible refine (HM.out _ B1.out).mono ?_); rintro x w2 ⟨rfl, rfl⟩)))
  go_ret2
  exact ⟨rfl, B1.out⟩
end

/-- rolled, with any rule. -/
theorem rolled_any (B : Nat) (p S : Int → Bool) (day r v e : Int) (w : World) (hB : BizAt w B p) (hS : SmIs day S) (d0 : 0 ≤ day) (d1 : day ≤ 99999) (r0 : 0 ≤ r) (r1 : r ≤ 4) (hv : VarD w) (h1 : nV (rolO S p r day) = v) (h2 : nE (rolO S p r day) = e) : RolS B day r v e w := by
  have hf : ∀ w', Below w.heap.size w w' → NthS B day 1 (nV (fwO p day 1)) (nE (fwO p day 1)) w' := fun w' hb => nth_any B p 1 day 1 _ _ _ w' (hB.below hb) (At.fwd day d0 (by omega)) (by omega) (by omega) rfl rfl
  have hg : ∀ w', Below w.heap.size w w' → NthS B day (-1) (nV (bwO p day 1)) (nE (bwO p day 1)) w' := fun w' hb => nth_any B p (-1) day 1 _ _ _ w' (hB.below hb) (At.bwd day (by omega) d1) (by omega) (by omega) rfl rfl
  have hm : ∀ t b, 0 ≤ t → t ≤ 99999 → S t = b → ∀ w', Below w.heap.size w w' → SamS day t b w' := fun t b t0 t1 ht w' hb => sameMonth_any day t S b hS d0 d1 t0 t1 ht w' (hv.below hb)
  have hr : r = 0 ∨ r = 1 ∨ r = 2 ∨ r = 3 ∨ r = 4 := by omega
  rcases hr with rfl | rfl | rfl | rfl | rfl
  · simp only [rolO, if_true] at h1 h2
    obtain rfl : day = v := h1
    obtain rfl : 0 = e := h2
    exact rolled_none B day w
  · rw [show rolO S p 1 day = fwO p day 1 from rfl] at h1 h2
    rw [← h1, ← h2]
    exact rolled_next B day _ _ w (hf w (Below.refl _ _))
  · rw [show rolO S p 2 day = bwO p day 1 from rfl] at h1 h2
    rw [← h1, ← h2]
    exact rolled_prev B day _ _ w (hg w (Below.refl _ _))
  · rw [show rolO S p 3 day = keepO S (fwO p day 1) (bwO p day 1) from rfl] at h1 h2
    have h0 := hf w (Below.refl _ _)
    rw [← h1, ← h2]
    rcases keep_cases S (fwO p day 1) (bwO p day 1) (fun t ht => fwO_day d0 (by omega) ht) with ⟨k1, k2, k3⟩ | ⟨k1, k2, k3, k4, k5⟩ | ⟨k1, k2, k3, k4, k5⟩
    · rw [k1, k2] at h0; rw [k3]; exact rolled_3a B day _ _ w h0 hg
    · rw [k1] at h0; rw [k5]; exact rolled_3b B day _ _ _ w h0 (hm _ _ k2 k3 k4) hg
    · rw [k1] at h0; rw [k5, k1]; exact rolled_3c B day _ w h0 (hm _ _ k2 k3 k4)
  · rw [show rolO S p 4 day = keepO S (bwO p day 1) (fwO p day 1) from rfl] at h1 h2
    have h0 := hg w (Below.refl _ _)
    rw [← h1, ← h2]
    rcases keep_cases S (bwO p day 1) (fwO p day 1) (fun t ht => bwO_day (by omega) d1 ht) with ⟨k1, k2, k3⟩ | ⟨k1, k2, k3, k4, k5⟩ | ⟨k1, k2, k3, k4, k5⟩
    · rw [k1, k2] at h0; rw [k3]; exact rolled_4a B day _ _ w h0 hf
    · rw [k1] at h0; rw [k5]; exact rolled_4b B day _ _ _ w h0 (hm _ _ k2 k3 k4) hf
    · rw [k1] at h0; rw [k5, k1]; exact rolled_4c B day _ w h0 (hm _ _ k2 k3 k4)

/-- How many business days from a day on and before another, in whichever order. -/
def cntV (p : Int → Bool) (a b : Int) : Int := cumI p b - cumI p a
end Go.Proofs.YtfheeipggedaiaaDoor

/- Layer 7, plain: the text of an amount out of an integer's, and back, as the program does it. -/
import Derived.Test.YtalnfbgaiegicaaGreatDoorMoN
import Derived.Lib.Replace
import Derived.Lib.IndexBytes
import Derived.Lib.SlTrimSet
import Derived.Lib.Repeat
namespace Go.Proofs.YtalnfbgaiegicaaGreatDoor
open Go

/-- Leading zeros up to one digit more than the unit; the point. -/
def padM (u : Nat) (w : List UInt8) : List UInt8 := List.replicate (u + 1 - w.length) 48 ++ w
def ptM (u : Nat) (w : List UInt8) : List UInt8 := (padM u w).take ((padM u w).length - u) ++ (if u = 0 then [] else 46 :: (padM u w).drop ((padM u w).length - u))
/-- The text that pointed answers. -/
def ptL (u : Nat) (l : List UInt8) : List UInt8 := (if ngB l then [45] else []) ++ ptM u (bod l)
theorem padM_len (u : Nat) (w : List UInt8) : (padM u w).length = max (u + 1) w.length := by unfold padM; rw [List.length_append, List.length_replicate]; omega
theorem dgs_zeros (k : Nat) (w : List UInt8) : vl 10 (dgs (List.replicate k 48 ++ w)) = vl 10 (dgs w) := by
  rw [dgs_append, vl_append]
  have : vl 10 (dgs (List.replicate k 48)) = 0 := by
    induction k with
    | zero => rfl
    | succ k ih =>
      rw [List.replicate_succ', dgs_concat]
      show dv 48 + 10 * vl 10 (dgs (List.replicate k 48)) = 0
      rw [ih]; rfl
  rw [this]; simp
theorem od_app {a b : List UInt8} : odB (a ++ b) = (odB a && odB b) := by unfold odB; rw [List.all_append]
theorem od_take {a : List UInt8} (h : odB a = true) (k : Nat) : odB (a.take k) = true := List.all_eq_true.2 fun c hc => List.all_eq_true.1 h c (List.mem_of_mem_take hc)
theorem od_drop {a : List UInt8} (h : odB a = true) (k : Nat) : odB (a.drop k) = true := List.all_eq_true.2 fun c hc => List.all_eq_true.1 h c (List.mem_of_mem_drop hc)
theorem od_zeros (k : Nat) : odB (List.replicate k 48) = true := List.all_eq_true.2 fun c hc => by rw [List.eq_of_mem_replicate hc]; decide
/-- What is pointed is the text of its number. -/
theorem ptM_shM (u : Nat) {w : List UInt8} (h : wokB w = true) : ptM u w = shM u (vl 10 (dgs w)) := by
  have hne := wok_ne h
  have hod : odB w = true := by unfold wokB at h; rw [Bool.and_eq_true] at h; exact h.1
  have hpo : odB (padM u w) = true := by unfold padM; rw [od_app, od_zeros, hod]; rfl
  have hpv : vl 10 (dgs (padM u w)) = vl 10 (dgs w) := dgs_zeros _ _
  have hpl := padM_len u w
  by_cases hu : u = 0
  · subst hu
    have e1 : padM 0 w = w := by unfold padM; rw [show 0 + 1 - w.length = 0 by omega]; rfl
    unfold ptM shM
    rw [if_pos rfl, if_pos rfl, e1, List.append_nil, List.append_nil, Nat.sub_zero, List.take_length, Nat.pow_zero, Nat.div_one]
    exact wok_itoa h
  · have hw : wokB ((padM u w).take ((padM u w).length - u)) = true := by
      rcases Nat.lt_or_ge u w.length with g | g
      · have e1 : padM u w = w := by unfold padM; rw [show u + 1 - w.length = 0 by omega]; rfl
        rw [e1]
        have hz : szB w = true := by
          unfold wokB at h
          rw [Bool.and_eq_true, Bool.or_eq_true] at h
          rcases h.2 with k | k
          · obtain rfl : w = [48] := by simpa using k
            simp at g; omega
          · exact k
        unfold wokB
        rw [od_take hod, Bool.true_and, Bool.or_eq_true]
        right
        cases w with
        | nil => simp at hne
        | cons c r =>
          rw [show (c :: r).length - u = ((c :: r).length - u - 1) + 1 by omega, List.take_succ_cons]
          exact hz
      · have e1 : (padM u w).take ((padM u w).length - u) = [48] := by
          rw [hpl, show max (u + 1) w.length - u = 1 by omega]
          unfold padM
          rw [show u + 1 - w.length = (u - w.length) + 1 by omega, List.replicate_succ]
          rfl
        rw [e1]; decide
    have hform : frmB u (ptM u w) = true ∧ frmN u (ptM u w) = vl 10 (dgs w) := by
      unfold frmB frmN
      rw [if_neg hu, if_neg hu]
      have e0 : ptM u w = (padM u w).take ((padM u w).length - u) ++ 46 :: (padM u w).drop ((padM u w).length - u) := by unfold ptM; rw [if_neg hu]
      rw [e0]
      have l1 : ((padM u w).take ((padM u w).length - u)).length = (padM u w).length - u := by rw [List.length_take]; omega
      have l2 : ((padM u w).drop ((padM u w).length - u)).length = u := by rw [List.length_drop]; omega
      have hd := od_drop hpo ((padM u w).length - u)
      have hv : vl 10 (dgs ((padM u w).take ((padM u w).length - u) ++ (padM u w).drop ((padM u w).length - u))) = vl 10 (dgs w) := by rw [List.take_append_drop]; exact hpv
      generalize hP : (padM u w).take ((padM u w).length - u) = P at *
      generalize hS : (padM u w).drop ((padM u w).length - u) = S at *
      have hP1 : 0 < P.length := wok_ne hw
      have e1 : (P ++ 46 :: S).length - u - 1 = P.length := by rw [List.length_append, List.length_cons]; omega
      have e2 : (P ++ 46 :: S).length - u = P.length + 1 := by rw [List.length_append, List.length_cons]; omega
      have e3 : (P ++ 46 :: S).take P.length = P := List.take_left' rfl
      have e4 : (P ++ 46 :: S).drop (P.length + 1) = S := by rw [List.drop_append, List.drop_of_length_le (by omega), show P.length + 1 - P.length = 1 by omega]; rfl
      have e5 : (P ++ 46 :: S).getD P.length 0 = 46 := by rw [List.getD_eq_getElem?_getD, List.getElem?_append_right (Nat.le_refl _), Nat.sub_self]; rfl
      rw [e1, e2, e3, e4, e5, hw, hd, decide_eq_true (by rw [List.length_append, List.length_cons]; omega)]
      exact ⟨rfl, hv⟩
    have := form_shM hform.1
    rw [hform.2] at this
    exact this.symm
/-- An integer's text, pointed. -/
theorem ptL_itoa (u : Nat) (z : Int) : ptL u (Lib.itoa z) = shN u z := by
  obtain ⟨h1, h2⟩ := itoa_wok z.natAbs
  unfold ptL shN
  by_cases hz : z < 0
  · have e : z = -(z.natAbs : Int) := by omega
    have e2 : Lib.itoa z = 45 :: Lib.itoa (z.natAbs : Int) := by
      rw [itoa_pos]
      conv => lhs; rw [e]
      exact itoa_neg _ (by omega)
    rw [e2, bod_neg, if_pos hz, ptM_shM u h1, h2]
    rfl
  · have e : z = (z.natAbs : Int) := by omega
    have h3 : ngB (Lib.itoa (z.natAbs : Int)) = false := by
      have h4 := wok_ne h1
      unfold wokB at h1
      rw [Bool.and_eq_true] at h1
      have h5 := List.all_eq_true.1 h1.1
      generalize Lib.itoa (z.natAbs : Int) = w at *
      cases w with
      | nil => simp at h4
      | cons c r =>
        have := (digit_no c (h5 c (by simp))).2
        unfold ngB
        simp [this]
    rw [if_neg hz, List.nil_append]
    rw [show Lib.itoa z = Lib.itoa (z.natAbs : Int) by rw [← e], h3, bod_pos _ h3, ptM_shM u h1, h2]
    rfl
/-- The first point left out. -/
def rm46 : List UInt8 → List UInt8
  | [] => []
  | c :: r => if c = 46 then r else c :: rm46 r
theorem idx46 (l : List UInt8) : (Lib.index l [46] = -1 ∧ rm46 l = l) ∨ ∃ i : Nat, Lib.index l [46] = i ∧ rm46 l = l.take i ++ l.drop (i + 1) := by
  induction l with
  | nil => exact .inl ⟨rfl, rfl⟩
  | cons c r ih =>
    unfold Lib.index rm46
    by_cases hc : c = 46
    · subst hc
      right
      exact ⟨0, by simp, by simp⟩
    · have hp : List.isPrefixOf [46] (c :: r) = false := by simp [List.isPrefixOf]; exact fun h => hc h.symm
      rw [hp, if_neg hc, if_neg (by decide)]
      rcases ih with ⟨i1, i2⟩ | ⟨i, i1, i2⟩
      · left
        rw [i1, i2]
        exact ⟨rfl, rfl⟩
      · right
        refine ⟨i + 1, ?_, ?_⟩
        · rw [i1]
          have : ((i : Int) == -1) = false := by rw [beq_eq_false_iff_ne]; omega
          rw [this]; simp
        · rw [i2]; simp
theorem repl46 (l : List UInt8) : Lib.replace l [46] [] 1 = rm46 l := by
  have hne : (([46] : List UInt8) == []) = false := by decide
  unfold Lib.replace
  rw [hne, if_neg (by decide)]
  unfold Lib.replaceNum
  rcases idx46 l with ⟨h1, h2⟩ | ⟨i, h1, h2⟩
  · have hc : Lib.count l [46] = 0 := Lib.count_miss h1
    rw [hc, if_pos (by omega), h2]
    rfl
  · have hc : 1 ≤ Lib.count l [46] := by rw [Lib.count_hit (by decide) h1]; omega
    rw [if_neg (by omega), show (1 : Int).toNat = 0 + 1 from rfl, Lib.replaceK_hit _ _ _ _ i h1, h2]
    simp [Lib.replaceK]
theorem rm46_cons (c : UInt8) (r : List UInt8) : rm46 (c :: r) = if c = 46 then r else c :: rm46 r := rfl
theorem rm46_no {a : List UInt8} (h : ∀ c ∈ a, c ≠ 46) (r : List UInt8) : rm46 (a ++ r) = a ++ rm46 r := by
  induction a with
  | nil => rfl
  | cons c a ih =>
    rw [List.cons_append, rm46_cons, if_neg (h c (by simp)), ih (fun x hx => h x (List.mem_cons_of_mem _ hx))]
    rfl
theorem rm46_nil {a : List UInt8} (h : ∀ c ∈ a, c ≠ 46) : rm46 a = a := by
  have := rm46_no h []
  rw [List.append_nil] at this
  rw [this]
  exact List.append_nil a
/-- Digits and signs at the beginning left out; what unpointed answers. -/
def stpL (b : List UInt8) : List UInt8 := Lib.trimLeftS (rm46 b) [45, 48]
def unpL (b : List UInt8) : List UInt8 := if stpL b = [] then [48] else if ngB b then 45 :: stpL b else stpL b
theorem trim_digits (D : List UInt8) (h : odB D = true) : odB (Lib.trimLeftS D [45, 48]) = true ∧ vl 10 (dgs (Lib.trimLeftS D [45, 48])) = vl 10 (dgs D) ∧ (Lib.trimLeftS D [45, 48] = [] ∨ szB (Lib.trimLeftS D [45, 48]) = true) := by
  induction D with
  | nil => exact ⟨rfl, rfl, .inl rfl⟩
  | cons c r ih =>
    have hc : dgB c = true := List.all_eq_true.1 h c (by simp)
    have hr : odB r = true := List.all_eq_true.2 fun x hx => List.all_eq_true.1 h x (List.mem_cons_of_mem _ hx)
    unfold Lib.trimLeftS at *
    by_cases h48 : c = 48
    · subst h48
      rw [List.dropWhile_cons, if_pos (by decide)]
      obtain ⟨i1, i2, i3⟩ := ih hr
      refine ⟨i1, ?_, i3⟩
      rw [i2]
      exact (dgs_zeros 1 r).symm
    · have h45 := (digit_no c hc).2
      rw [List.dropWhile_cons, if_neg (by simp [h45, h48])]
      refine ⟨h, rfl, .inr ?_⟩
      unfold szB
      have hcc := (dgB_iff c).1 hc
      have hne : c.toNat ≠ 48 := fun e => h48 (UInt8.toNat_inj.1 e)
      simp only [Bool.and_eq_true, decide_eq_true_eq]
      refine ⟨?_, ?_⟩ <;> (rw [UInt8.le_iff_toNat_le]; simp; omega)
theorem dot_no (c : UInt8) (h : dgB c = true) : c ≠ 46 := by intro e; subst e; revert h; decide
/-- A text in the form: the only integer it can be. -/
theorem unp_form {u : Nat} {b : List UInt8} (h : frmB u (bod b) = true) (hz : ¬ (ngB b = true ∧ frmN u (bod b) = 0)) : unpL b = Lib.itoa (sgn (ngB b) (frmN u (bod b))) := by
  -- the digits
  obtain ⟨D, hD1, hD2, hD3⟩ : ∃ D, odB D = true ∧ rm46 (bod b) = D ∧ vl 10 (dgs D) = frmN u (bod b) := by
    unfold frmB at h
    unfold frmN
    by_cases hu : u = 0
    · subst hu
      rw [if_pos rfl] at h ⊢
      unfold wokB at h
      rw [Bool.and_eq_true] at h
      exact ⟨bod b, h.1, rm46_nil (fun c hc => dot_no c (List.all_eq_true.1 h.1 c hc)), rfl⟩
    · rw [if_neg hu] at h ⊢
      rw [Bool.and_eq_true, Bool.and_eq_true, Bool.and_eq_true, decide_eq_true_eq, beq_iff_eq] at h
      obtain ⟨⟨⟨h1, h2⟩, h3⟩, h4⟩ := h
      generalize bod b = l at *
      have hb : l = l.take (l.length - u - 1) ++ 46 :: l.drop (l.length - u) := by
        have e1 : l.drop (l.length - u - 1) = 46 :: l.drop (l.length - u) := by
          rw [List.drop_eq_getElem_cons (by omega)]
          have e2 : l.length - u - 1 + 1 = l.length - u := by omega
          rw [e2]
          rw [List.getD_eq_getElem?_getD, List.getElem?_eq_getElem (by omega)] at h2
          exact congrArg (· :: _) h2
        rw [← e1, List.take_append_drop]
      unfold wokB at h3
      rw [Bool.and_eq_true] at h3
      refine ⟨l.take (l.length - u - 1) ++ l.drop (l.length - u), by rw [od_app, h3.1, h4]; rfl, ?_, rfl⟩
      have hno : ∀ c ∈ l.take (l.length - u - 1), c ≠ 46 := fun c hc => dot_no c (List.all_eq_true.1 h3.1 c hc)
      generalize l.take (l.length - u - 1) = P at *
      generalize l.drop (l.length - u) = S at *
      rw [hb, rm46_no hno]
      unfold rm46
      rw [if_pos rfl]
  obtain ⟨t1, t2, t3⟩ := trim_digits D hD1
  have hs : stpL b = Lib.trimLeftS D [45, 48] := by
    unfold stpL
    cases hg : ngB b
    · rw [← hD2, bod_pos _ hg]
    · have e : rm46 b = 45 :: D := by
        rw [neg_cons b hg, rm46_cons, if_neg (by decide), hD2]
      rw [e]
      unfold Lib.trimLeftS
      rw [List.dropWhile_cons, if_pos (by decide)]
  unfold unpL
  rw [hs]
  rw [hD3] at t2
  rcases t3 with t3 | t3
  · rw [t3] at t2
    have h0 : frmN u (bod b) = 0 := t2.symm
    have hg : ngB b = false := by
      cases hg : ngB b
      · rfl
      · exact absurd ⟨hg, h0⟩ hz
    rw [if_pos t3, h0, itoa_sgn_zero]
  · obtain ⟨p1, p2⟩ := vl_pos_of_sz _ _ rfl t3 t1
    rw [t2] at p1 p2
    have hne : Lib.trimLeftS D [45, 48] ≠ [] := by intro e; rw [e] at t3; revert t3; decide
    rw [if_neg hne, itoa_sgn _ _ p1, p2]
    cases ngB b <;> rfl
/-- What the program finds in a text before the space: is it the text of an integer? -/
def okT (u : Nat) (b : List UInt8) : Bool := !(decide (chk (unpL b) = 12)) && (ptL u (unpL b) == b)
theorem okT_iff (u : Nat) (b : List UInt8) : okT u b = (frmB u (bod b) && !(ngB b && decide (frmN u (bod b) = 0))) := by
  have key : okT u b = true ↔ (frmB u (bod b) = true ∧ ¬ (ngB b = true ∧ frmN u (bod b) = 0)) := by
    constructor
    · intro h
      unfold okT at h
      rw [Bool.and_eq_true, Bool.not_eq_true', decide_eq_false_iff_not, beq_iff_eq] at h
      obtain ⟨h1, h2⟩ := h
      have e := itoa_num _ h1
      rw [e, ptL_itoa] at h2
      generalize num (unpL b) = z at *
      rw [← h2]
      obtain ⟨p1, p2⟩ := shN_parts u z
      obtain ⟨f1, f2⟩ := shM_form u z.natAbs
      rw [p1, p2, f2]
      refine ⟨f1, fun ⟨g1, g2⟩ => ?_⟩
      have := of_decide_eq_true g1
      omega
    · intro ⟨h1, h2⟩
      have e := unp_form h1 h2
      unfold okT
      rw [e]
      have hs := form_shM h1
      have hc : ¬ chk (Lib.itoa (sgn (ngB b) (frmN u (bod b)))) = 12 := by
        rw [chk_itoa]; split <;> omega
      rw [ptL_itoa, decide_eq_false hc, Bool.not_false, Bool.true_and, beq_iff_eq]
      generalize frmN u (bod b) = m at *
      cases hg : ngB b
      · have : sgn false m = (m : Int) := rfl
        rw [this]
        unfold shN
        rw [if_neg (by omega), List.nil_append, Int.natAbs_natCast, hs]
        exact bod_pos _ hg
      · have : sgn true m = -(m : Int) := rfl
        rw [this]
        have : m ≠ 0 := fun e => h2 ⟨hg, e⟩
        unfold shN
        rw [if_pos (by omega), Int.natAbs_neg, Int.natAbs_natCast, hs]
        exact (neg_cons _ hg).symm
  cases hv : okT u b
  · symm
    rw [Bool.eq_false_iff]
    intro g
    rw [Bool.and_eq_true, Bool.not_eq_true', Bool.and_eq_false_iff, decide_eq_false_iff_not] at g
    have := key.2 ⟨g.1, fun ⟨a, c⟩ => by
      rcases g.2 with q | q
      · rw [a] at q; cases q
      · exact q c⟩
    rw [hv] at this; cases this
  · obtain ⟨a, c⟩ := key.1 hv
    rw [a, Bool.true_and]
    symm
    rw [Bool.not_eq_true', Bool.and_eq_false_iff, decide_eq_false_iff_not]
    cases hg : ngB b
    · exact .inl rfl
    · exact .inr fun e => c ⟨hg, e⟩
theorem okT_num {u : Nat} {b : List UInt8} (h : okT u b = true) : unpL b = Lib.itoa (sgn (ngB b) (frmN u (bod b))) := by
  rw [okT_iff, Bool.and_eq_true, Bool.not_eq_true', Bool.and_eq_false_iff, decide_eq_false_iff_not] at h
  exact unp_form h.1 fun ⟨a, c⟩ => by
    rcases h.2 with q | q
    · rw [a] at q; cases q
    · exact q c
end Go.Proofs.YtalnfbgaiegicaaGreatDoor

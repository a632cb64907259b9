/- Joined: MoN, MoO. -/
import Derived.Test.YtalnfbgaiegicaaIntA1
/- Layer 7, plain: names, units, the text of an amount. -/
namespace Go.Proofs.Ytalnfbgaiegicaa
open Go

def alphaB (c : UInt8) : Bool := (65 ≤ c && c ≤ 90) || (97 ≤ c && c ≤ 122)
def nextB (c : UInt8) : Bool := alphaB c || (48 ≤ c && c ≤ 57) || c == 95 || c == 45
/-- Is it a name? -/
def nameB (l : List UInt8) : Bool := decide (l.length ≤ 40) && (match l with | [] => false | c :: r => alphaB c && r.all nextB)
/-- The unit of a currency. -/
def unU (l : List UInt8) : Nat := if l = [74, 80, 89] ∨ l = [75, 82, 87] ∨ l = [86, 78, 68] then 0 else if l = [66, 72, 68] ∨ l = [75, 87, 68] ∨ l = [84, 78, 68] then 3 else 2
def unV (l : List UInt8) : Int := if nameB l then unU l else 0
def unE (l : List UInt8) : Int := if nameB l then 0 else 2
theorem unU_cases (l : List UInt8) : unU l = 0 ∨ unU l = 3 ∨ unU l = 2 := by
  unfold unU
  split
  · exact .inl rfl
  · split
    · exact .inr (.inl rfl)
    · exact .inr (.inr rfl)
def amB (n : Int) : Bool := decide (-1125899906842624 ≤ n) && decide (n ≤ 1125899906842624)
theorem amB_iff (n : Int) : amB n = true ↔ -1125899906842624 ≤ n ∧ n ≤ 1125899906842624 := by unfold amB; rw [Bool.and_eq_true, decide_eq_true_eq, decide_eq_true_eq]
/-- The last k digits of a number. -/
def lasD : Nat → Nat → List UInt8
  | 0, _ => []
  | k + 1, m => lasD k (m / 10) ++ [dch (m % 10)]
theorem lasD_len (k : Nat) : ∀ m, (lasD k m).length = k := by
  induction k with
  | zero => intro m; rfl
  | succ k ih => intro m; unfold lasD; rw [List.length_append, ih]; rfl
/-- The text of an amount, without its currency. -/
def shM (u m : Nat) : List UInt8 := Lib.itoa ((m / 10 ^ u : Nat) : Int) ++ (if u = 0 then [] else 46 :: lasD u m)
def shN (u : Nat) (n : Int) : List UInt8 := (if n < 0 then [45] else []) ++ shM u n.natAbs
def shL (n : Int) (c : List UInt8) : List UInt8 := shN (unU c) n ++ 32 :: c
def shV (n : Int) (c : List UInt8) : List UInt8 := if nameB c && amB n then shL n c else []
def shE (n : Int) (c : List UInt8) : Int := if nameB c && amB n then 0 else 2
/-- A name has no space. -/
theorem name_no32 {l : List UInt8} (h : nameB l = true) : ∀ c ∈ l, c ≠ 32 := by
  have ha : ∀ c, alphaB c = true → c ≠ 32 := by intro c hc e; subst e; revert hc; decide
  have hn : ∀ c, nextB c = true → c ≠ 32 := by intro c hc e; subst e; revert hc; decide
  unfold nameB at h
  rw [Bool.and_eq_true] at h
  cases l with
  | nil => intro c hc; cases hc
  | cons a r =>
    have h2 := h.2
    rw [Bool.and_eq_true, List.all_eq_true] at h2
    intro c hc
    rcases List.mem_cons.1 hc with rfl | hc
    · exact ha _ h2.1
    · exact hn _ (h2.2 c hc)
theorem dch_no32 (d : Nat) (h : d < 10) : dch d ≠ 32 ∧ dch d ≠ 46 ∧ dch d ≠ 45 := by
  have : ∀ d : Fin 10, dch d.val ≠ 32 ∧ dch d.val ≠ 46 ∧ dch d.val ≠ 45 := by decide
  exact this ⟨d, h⟩
theorem lasD_od (k : Nat) : ∀ m, ∀ c ∈ lasD k m, dgB c = true := by
  induction k with
  | zero => intro m c hc; cases hc
  | succ k ih =>
    intro m c hc
    unfold lasD at hc
    rcases List.mem_append.1 hc with g | g
    · exact ih _ c g
    · rw [List.mem_singleton.1 g]; exact (dch_good _ (Nat.mod_lt _ (by omega))).1
theorem lasD_vl (k : Nat) : ∀ m, vl 10 (dgs (lasD k m)) = m % 10 ^ k := by
  induction k with
  | zero => intro m; show 0 = m % 1; omega
  | succ k ih =>
    intro m
    unfold lasD
    rw [dgs_concat, (dch_good _ (Nat.mod_lt m (by omega))).2.1]
    show m % 10 + 10 * vl 10 (dgs (lasD k (m / 10))) = _
    rw [ih, Nat.pow_succ, Nat.mul_comm (10 ^ k) 10, Nat.mod_mul]
/-- Digits are the last digits of their number. -/
theorem lasD_of : ∀ (k : Nat) (f : List UInt8), f.length = k → odB f = true → lasD k (vl 10 (dgs f)) = f := by
  intro k
  induction k with
  | zero => intro f hl _; rw [List.eq_nil_of_length_eq_zero hl]; rfl
  | succ k ih =>
    intro f hl ho
    obtain ⟨g, c, rfl⟩ : ∃ g c, f = g ++ [c] := by
      have hne : f ≠ [] := by intro e; subst e; simp at hl
      exact ⟨f.dropLast, f.getLast hne, (List.dropLast_concat_getLast hne).symm⟩
    have hlg : g.length = k := by simp at hl; exact hl
    unfold odB at ho
    rw [List.all_append, Bool.and_eq_true] at ho
    have hc : dgB c = true := by simpa using ho.2
    have hd := dv_lt c hc
    rw [dgs_concat]
    unfold lasD
    have e : vl 10 (dv c :: dgs g) = dv c + 10 * vl 10 (dgs g) := rfl
    rw [e, show (dv c + 10 * vl 10 (dgs g)) / 10 = vl 10 (dgs g) by omega, show (dv c + 10 * vl 10 (dgs g)) % 10 = dv c by omega, ih g hlg ho.1]
    unfold dch
    rw [ofNat_dv c hc]
/-- Only the last digits count. -/
theorem lasD_mod (k : Nat) : ∀ m, lasD k (m % 10 ^ k) = lasD k m := by
  induction k with
  | zero => intro m; rfl
  | succ k ih =>
    intro m
    unfold lasD
    have e1 : m % 10 ^ (k + 1) / 10 = (m / 10) % 10 ^ k := by
      rw [Nat.pow_succ, Nat.mul_comm, Nat.mod_mul_right_div_self]
    have e2 : m % 10 ^ (k + 1) % 10 = m % 10 := by
      rw [Nat.pow_succ, Nat.mul_comm]; exact Nat.mod_mul_right_mod _ _ _
    rw [e1, e2, ih]
/-- The digits before the point: one at least, no zero ahead of others. -/
def wokB (w : List UInt8) : Bool := odB w && (w == [48] || szB w)
/-- Is a text without its sign in the form of an amount of that unit? Its number. -/
def frmB (u : Nat) (b : List UInt8) : Bool := if u = 0 then wokB b else decide (u + 1 < b.length) && b.getD (b.length - u - 1) 0 == 46 && wokB (b.take (b.length - u - 1)) && odB (b.drop (b.length - u))
def frmN (u : Nat) (b : List UInt8) : Nat := if u = 0 then vl 10 (dgs b) else vl 10 (dgs (b.take (b.length - u - 1) ++ b.drop (b.length - u)))
theorem wok_itoa {w : List UInt8} (h : wokB w = true) : w = Lib.itoa ((vl 10 (dgs w) : Nat) : Int) := by
  unfold wokB at h
  rw [Bool.and_eq_true, Bool.or_eq_true] at h
  rcases h.2 with g | g
  · obtain rfl : w = [48] := by simpa using g
    exact itoa_zero.symm
  · have := (vl_pos_of_sz w.length w rfl g h.1).2
    rw [itoa_pos]; exact this
theorem itoa_wok (m : Nat) : wokB (Lib.itoa (m : Int)) = true ∧ vl 10 (dgs (Lib.itoa (m : Int))) = m := by
  rcases Nat.eq_zero_or_pos m with rfl | h
  · exact ⟨by decide +kernel, by decide +kernel⟩
  · rw [itoa_pos]
    obtain ⟨a, b, c⟩ := dec_good' m h
    exact ⟨by unfold wokB; rw [a, b]; simp, c⟩
theorem wok_ne {w : List UInt8} (h : wokB w = true) : 0 < w.length := by
  cases w with
  | nil => revert h; decide
  | cons c r => simp
/-- What is shown has the form, and its number. -/
theorem shM_form (u m : Nat) : frmB u (shM u m) = true ∧ frmN u (shM u m) = m := by
  obtain ⟨h1, h2⟩ := itoa_wok (m / 10 ^ u)
  have hne := wok_ne h1
  by_cases hu : u = 0
  · subst hu
    have e : shM 0 m = Lib.itoa ((m / 10 ^ 0 : Nat) : Int) := by unfold shM; simp
    unfold frmB frmN
    rw [if_pos rfl, if_pos rfl, e]
    refine ⟨h1, ?_⟩
    rw [h2]; simp
  · have e : shM u m = Lib.itoa ((m / 10 ^ u : Nat) : Int) ++ 46 :: lasD u m := by unfold shM; rw [if_neg hu]
    unfold frmB frmN
    rw [if_neg hu, if_neg hu, e]
    generalize Lib.itoa ((m / 10 ^ u : Nat) : Int) = w at *
    have hl := lasD_len u m
    have hlen : (w ++ 46 :: lasD u m).length = w.length + u + 1 := by rw [List.length_append, List.length_cons, hl]; omega
    have e1 : (w ++ 46 :: lasD u m).take (w.length + u + 1 - u - 1) = w := by
      rw [show w.length + u + 1 - u - 1 = w.length by omega, List.take_left']; rfl
    have e2 : (w ++ 46 :: lasD u m).drop (w.length + u + 1 - u) = lasD u m := by
      rw [show w.length + u + 1 - u = w.length + 1 by omega, List.drop_append, List.drop_of_length_le (by omega), show w.length + 1 - w.length = 1 by omega]; rfl
    have e3 : (w ++ 46 :: lasD u m).getD (w.length + u + 1 - u - 1) 0 = 46 := by
      rw [show w.length + u + 1 - u - 1 = w.length by omega, List.getD_eq_getElem?_getD, List.getElem?_append_right (Nat.le_refl _), Nat.sub_self]; rfl
    rw [hlen, e1, e2, e3, h1]
    constructor
    · have : odB (lasD u m) = true := List.all_eq_true.2 (lasD_od u m)
      rw [this, decide_eq_true (by omega)]; rfl
    · rw [dgs_append, vl_append, lasD_vl, h2, dgs_length, hl, Nat.mod_add_div]
/-- What has the form is shown so. -/
theorem form_shM {u : Nat} {b : List UInt8} (h : frmB u b = true) : shM u (frmN u b) = b := by
  unfold frmB at h
  unfold frmN
  by_cases hu : u = 0
  · subst hu
    rw [if_pos rfl] at h ⊢
    have := wok_itoa h
    unfold shM
    rw [if_pos rfl, List.append_nil, Nat.pow_zero, Nat.div_one]
    exact this.symm
  · rw [if_neg hu] at h ⊢
    rw [Bool.and_eq_true, Bool.and_eq_true, Bool.and_eq_true, decide_eq_true_eq, beq_iff_eq] at h
    obtain ⟨⟨⟨h1, h2⟩, h3⟩, h4⟩ := h
    have hb : b = b.take (b.length - u - 1) ++ 46 :: b.drop (b.length - u) := by
      have e1 : b.drop (b.length - u - 1) = 46 :: b.drop (b.length - u) := by
        rw [List.drop_eq_getElem_cons (by omega)]
        have e2 : b.length - u - 1 + 1 = b.length - u := by omega
        rw [e2]
        rw [List.getD_eq_getElem?_getD, List.getElem?_eq_getElem (by omega)] at h2
        exact congrArg (· :: _) h2
      rw [← e1, List.take_append_drop]
    have hlw := wok_ne h3
    have hlf : (b.drop (b.length - u)).length = u := by rw [List.length_drop]; omega
    have hw := wok_itoa h3
    generalize b.take (b.length - u - 1) = w at *
    generalize b.drop (b.length - u) = f at *
    have hf := lasD_of u f hlf h4
    have hfl : vl 10 (dgs f) < 10 ^ u := by
      have := vl_lt 10 (dgs f) (dgs_lt f h4)
      rwa [dgs_length, hlf] at this
    rw [dgs_append, vl_append, dgs_length, hlf]
    unfold shM
    rw [if_neg hu, Nat.add_mul_div_left _ _ (Nat.pow_pos (by omega)), Nat.div_eq_of_lt hfl, Nat.zero_add, ← hw, ← lasD_mod, Nat.add_mul_mod_self_left, lasD_mod, hf]
    exact hb.symm
end Go.Proofs.Ytalnfbgaiegicaa
/- Layer 7, plain: what Read answers; it is the inverse of the text. -/
namespace Go.Proofs.Ytalnfbgaiegicaa
open Go

/-- Before the first space; from it on. -/
def tk32 : List UInt8 → List UInt8
  | [] => []
  | c :: r => if c = 32 then [] else c :: tk32 r
def dr32 : List UInt8 → List UInt8
  | [] => []
  | c :: r => if c = 32 then c :: r else dr32 r
theorem tk_dr (l : List UInt8) : tk32 l ++ dr32 l = l := by
  induction l with
  | nil => rfl
  | cons c r ih => unfold tk32 dr32; split <;> simp [ih]
theorem dr_head (l : List UInt8) : dr32 l = [] ∨ ∃ r, dr32 l = 32 :: r := by
  induction l with
  | nil => exact .inl rfl
  | cons c r ih =>
    unfold dr32
    split
    · next h => subst h; exact .inr ⟨r, rfl⟩
    · exact ih
theorem tk_no (l : List UInt8) : ∀ c ∈ tk32 l, c ≠ 32 := by
  induction l with
  | nil => intro c hc; cases hc
  | cons a r ih =>
    intro c hc
    unfold tk32 at hc
    split at hc
    · cases hc
    · next h =>
      rcases List.mem_cons.1 hc with rfl | hc
      · exact h
      · exact ih c hc
theorem tk_app {a : List UInt8} (h : ∀ c ∈ a, c ≠ 32) (r : List UInt8) : tk32 (a ++ 32 :: r) = a ∧ dr32 (a ++ 32 :: r) = 32 :: r := by
  induction a with
  | nil => exact ⟨rfl, rfl⟩
  | cons c a ih =>
    have hc := h c (by simp)
    obtain ⟨i1, i2⟩ := ih (fun x hx => h x (List.mem_cons_of_mem _ hx))
    constructor
    · show tk32 (c :: (a ++ 32 :: r)) = _
      unfold tk32
      rw [if_neg hc, i1]
    · show dr32 (c :: (a ++ 32 :: r)) = _
      unfold dr32
      rw [if_neg hc, i2]
/-- What Read answers: the amount, the currency, the error. -/
def rdE7 (l : List UInt8) : Int := match dr32 l with
  | [] => 12
  | _ :: c => if nameB c && frmB (unU c) (bod (tk32 l)) && !(ngB (tk32 l) && decide (frmN (unU c) (bod (tk32 l)) = 0)) then (if 1125899906842624 < frmN (unU c) (bod (tk32 l)) then 14 else 0) else 12
def rdC7 (l : List UInt8) : List UInt8 := if rdE7 l = 0 then (dr32 l).tail else []
def rdN7 (l : List UInt8) : Int := if rdE7 l = 0 then sgn (ngB (tk32 l)) (frmN (unU (dr32 l).tail) (bod (tk32 l))) else 0
theorem digit_no (c : UInt8) (h : dgB c = true) : c ≠ 32 ∧ c ≠ 45 := by
  constructor <;> (intro e; subst e; revert h; decide)
theorem shM_no (u m : Nat) : ∀ c ∈ shM u m, c ≠ 32 := by
  intro c hc
  have h1 := (itoa_wok (m / 10 ^ u)).1
  unfold wokB at h1
  rw [Bool.and_eq_true] at h1
  unfold shM at hc
  rcases List.mem_append.1 hc with g | g
  · exact (digit_no c (List.all_eq_true.1 h1.1 c g)).1
  · split at g
    · cases g
    · rcases List.mem_cons.1 g with rfl | g
      · decide
      · exact (digit_no c (lasD_od u m c g)).1
theorem shM_pos (u m : Nat) : ngB (shM u m) = false ∧ bod (shM u m) = shM u m := by
  have h : ngB (shM u m) = false := by
    have h1 := (itoa_wok (m / 10 ^ u)).1
    have h2 := wok_ne h1
    unfold wokB at h1
    rw [Bool.and_eq_true] at h1
    have h3 := List.all_eq_true.1 h1.1
    unfold shM
    generalize Lib.itoa ((m / 10 ^ u : Nat) : Int) = w at *
    cases w with
    | nil => simp at h2
    | cons c r =>
      have := (digit_no c (h3 c (by simp))).2
      unfold ngB
      simp [this]
  exact ⟨h, bod_pos _ h⟩
theorem shN_parts (u : Nat) (n : Int) : ngB (shN u n) = decide (n < 0) ∧ bod (shN u n) = shM u n.natAbs := by
  unfold shN
  by_cases h : n < 0
  · rw [if_pos h, decide_eq_true h]
    exact ⟨rfl, bod_neg _⟩
  · rw [if_neg h, decide_eq_false h, List.nil_append]
    exact shM_pos u n.natAbs
theorem shN_no (u : Nat) (n : Int) : ∀ c ∈ shN u n, c ≠ 32 := by
  intro c hc
  unfold shN at hc
  rcases List.mem_append.1 hc with g | g
  · split at g
    · rw [List.mem_singleton.1 g]; decide
    · cases g
  · exact shM_no u _ c g
/-- What is shown is read. -/
theorem read_show {n : Int} {c : List UInt8} (hc : nameB c = true) (hn : amB n = true) : rdE7 (shL n c) = 0 ∧ rdC7 (shL n c) = c ∧ rdN7 (shL n c) = n := by
  obtain ⟨n0, n1⟩ := (amB_iff n).1 hn
  obtain ⟨t1, t2⟩ := tk_app (shN_no (unU c) n) c
  have e1 : tk32 (shL n c) = shN (unU c) n := t1
  have e2 : dr32 (shL n c) = 32 :: c := t2
  obtain ⟨p1, p2⟩ := shN_parts (unU c) n
  obtain ⟨f1, f2⟩ := shM_form (unU c) n.natAbs
  have hE : rdE7 (shL n c) = 0 := by
    unfold rdE7
    rw [e2, e1, p1, p2]
    simp only [hc, f1, f2, Bool.true_and]
    have h3 : (decide (n < 0) && decide (n.natAbs = 0)) = false := by
      by_cases h : n < 0
      · rw [decide_eq_false (show ¬ n.natAbs = 0 by omega), Bool.and_false]
      · rw [decide_eq_false h, Bool.false_and]
    rw [h3, Bool.not_false, if_pos rfl, if_neg (by omega)]
  refine ⟨hE, ?_, ?_⟩
  · unfold rdC7; rw [if_pos hE, e2]; rfl
  · unfold rdN7
    rw [if_pos hE, e2, e1, p1, p2]
    show sgn _ (frmN (unU c) _) = n
    rw [f2]
    unfold sgn
    by_cases h : n < 0
    · rw [decide_eq_true h, if_pos rfl]; omega
    · rw [decide_eq_false h, if_neg (by decide)]; omega
/-- What is read is shown so. -/
theorem show_read {l : List UInt8} (h : rdE7 l = 0) : nameB (rdC7 l) = true ∧ amB (rdN7 l) = true ∧ shL (rdN7 l) (rdC7 l) = l := by
  have hC : rdC7 l = (dr32 l).tail := by unfold rdC7; rw [if_pos h]
  have hN : rdN7 l = sgn (ngB (tk32 l)) (frmN (unU (dr32 l).tail) (bod (tk32 l))) := by unfold rdN7; rw [if_pos h]
  rcases dr_head l with g | ⟨r, g⟩
  · unfold rdE7 at h
    rw [g] at h
    simp at h
  · rw [hC, hN, g]
    show nameB r = true ∧ amB (sgn _ (frmN (unU r) _)) = true ∧ shL (sgn _ (frmN (unU r) _)) r = l
    unfold rdE7 at h
    rw [g] at h
    simp only at h
    split at h
    · next hb =>
      rw [Bool.and_eq_true, Bool.and_eq_true] at hb
      obtain ⟨⟨h1, h2⟩, h3⟩ := hb
      split at h
      · cases h
      · next hm =>
        have hs := form_shM h2
        generalize frmN (unU r) (bod (tk32 l)) = m at *
        have hz : ngB (tk32 l) = true → m ≠ 0 := by
          intro hg e
          rw [hg, e] at h3
          exact absurd h3 (by decide)
        refine ⟨h1, (amB_iff _).2 ?_, ?_⟩
        · unfold sgn; split <;> omega
        · have ht : shN (unU r) (sgn (ngB (tk32 l)) m) = tk32 l := by
            cases hg : ngB (tk32 l)
            · have : sgn false m = (m : Int) := rfl
              rw [this]
              unfold shN
              rw [if_neg (by omega), List.nil_append, Int.natAbs_natCast, hs]
              exact bod_pos _ hg
            · have : sgn true m = -(m : Int) := rfl
              rw [this]
              have := hz hg
              unfold shN
              rw [if_pos (by omega), Int.natAbs_neg, Int.natAbs_natCast, hs]
              exact (neg_cons _ hg).symm
          unfold shL
          rw [ht, ← g]
          exact tk_dr l
    · cases h
end Go.Proofs.Ytalnfbgaiegicaa

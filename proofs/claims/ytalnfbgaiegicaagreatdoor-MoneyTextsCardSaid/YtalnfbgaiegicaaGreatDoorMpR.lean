/- Layer 7, plain: when a text has the form of an amount, byte for byte; its number by steps. No walk. -/
import Derived.Test.YtalnfbgaiegicaaGreatDoorMoN
namespace Go.Proofs.YtalnfbgaiegicaaGreatDoor
open Go

/-- The place of the point (or the end). -/
def WhB (u wh : Nat) (b : List UInt8) : Prop := (u = 0 ∧ wh = b.length) ∨ (u ≠ 0 ∧ wh + u + 1 = b.length)
/-- The digits among the first k bytes. -/
def eN (wh k : Nat) (b : List UInt8) : List UInt8 := b.take (min k wh) ++ (b.drop (wh + 1)).take (k - wh - 1)
theorem od_get {l : List UInt8} (h : odB l = true) {k : Nat} (hk : k < l.length) : dgB (l.getD k 0) = true := by
  unfold odB at h
  rw [List.all_eq_true] at h
  rw [List.getD_eq_getElem?_getD, List.getElem?_eq_getElem hk]
  exact h _ (List.getElem_mem hk)
theorem od_of {l : List UInt8} (h : ∀ k, k < l.length → dgB (l.getD k 0) = true) : odB l = true := by
  unfold odB
  rw [List.all_eq_true]
  intro c hc
  obtain ⟨k, hk, rfl⟩ := List.getElem_of_mem hc
  have := h k hk
  rwa [List.getD_eq_getElem?_getD, List.getElem?_eq_getElem hk] at this
theorem wok_parts {w : List UInt8} (h : wokB w = true) : 1 ≤ w.length ∧ (1 < w.length → w.getD 0 0 ≠ 48) ∧ odB w = true := by
  have h1 := wok_ne h
  unfold wokB at h
  rw [Bool.and_eq_true, Bool.or_eq_true] at h
  refine ⟨h1, fun hl => ?_, h.1⟩
  rcases h.2 with g | g
  · obtain rfl : w = [48] := by simpa using g
    simp at hl
  · cases w with
    | nil => cases h1
    | cons c r =>
      intro e
      have e : c = 48 := e
      subst e
      revert g; unfold szB; simp
theorem wok_of {w : List UInt8} (h1 : 1 ≤ w.length) (h2 : 1 < w.length → w.getD 0 0 ≠ 48) (h3 : odB w = true) : wokB w = true := by
  unfold wokB
  rw [h3, Bool.true_and, Bool.or_eq_true]
  cases w with
  | nil => simp at h1
  | cons c r =>
    have hc : dgB c = true := by unfold odB at h3; rw [List.all_cons, Bool.and_eq_true] at h3; exact h3.1
    by_cases e : c = 48
    · subst e
      cases r with
      | nil => exact .inl rfl
      | cons d r => exact absurd rfl (h2 (by simp))
    · right
      unfold szB
      unfold dgB at hc
      rw [Bool.and_eq_true, decide_eq_true_eq, decide_eq_true_eq] at hc ⊢
      have e1 : (48 : UInt8).toNat = 48 := rfl
      have e2 : (49 : UInt8).toNat = 49 := rfl
      have e3 : c.toNat ≠ 48 := fun h => e (UInt8.toNat_inj.1 (h.trans e1.symm))
      simp only [UInt8.le_iff_toNat_le] at hc ⊢
      omega
theorem getD_take' {l : List UInt8} {n k : Nat} (h : k < n) : (l.take n).getD k 0 = l.getD k 0 := by
  rw [List.getD_eq_getElem?_getD, List.getD_eq_getElem?_getD, List.getElem?_take, if_pos h]
theorem getD_drop' {l : List UInt8} {n k : Nat} : (l.drop n).getD k 0 = l.getD (n + k) 0 := by
  rw [List.getD_eq_getElem?_getD, List.getD_eq_getElem?_getD, List.getElem?_drop]
theorem frm_parts {u : Nat} {b : List UInt8} (h : frmB u b = true) : ∃ wh, WhB u wh b ∧ 1 ≤ wh ∧ (1 < wh → b.getD 0 0 ≠ 48) ∧ (∀ k, k < b.length → k ≠ wh → dgB (b.getD k 0) = true) ∧ (u ≠ 0 → b.getD wh 0 = 46) := by
  unfold frmB at h
  split at h
  · next hu =>
    obtain ⟨h1, h2, h3⟩ := wok_parts h
    exact ⟨b.length, .inl ⟨hu, rfl⟩, h1, h2, fun k hk _ => od_get h3 hk, fun g => absurd hu g⟩
  · next hu =>
    rw [Bool.and_eq_true, Bool.and_eq_true, Bool.and_eq_true, decide_eq_true_eq, beq_iff_eq] at h
    obtain ⟨⟨⟨h1, h2⟩, h3⟩, h4⟩ := h
    obtain ⟨g1, g2, g3⟩ := wok_parts h3
    have hlen : (b.take (b.length - u - 1)).length = b.length - u - 1 := by rw [List.length_take]; omega
    refine ⟨b.length - u - 1, .inr ⟨hu, by omega⟩, by omega, fun hl => ?_, fun k hk hne => ?_, fun _ => h2⟩
    · have := g2 (by omega)
      rwa [getD_take' (by omega)] at this
    · rcases Nat.lt_or_ge k (b.length - u - 1) with q | q
      · have := od_get g3 (k := k) (by omega)
        rwa [getD_take' q] at this
      · have := od_get h4 (k := k - (b.length - u)) (by rw [List.length_drop]; omega)
        rwa [getD_drop', show b.length - u + (k - (b.length - u)) = k by omega] at this
theorem frm_of {u wh : Nat} {b : List UInt8} (hw : WhB u wh b) (h1 : 1 ≤ wh) (h2 : 1 < wh → b.getD 0 0 ≠ 48) (h3 : ∀ k, k < b.length → k ≠ wh → dgB (b.getD k 0) = true) (h4 : u ≠ 0 → b.getD wh 0 = 46) : frmB u b = true := by
  unfold frmB
  rcases hw with ⟨hu, hl⟩ | ⟨hu, hl⟩
  · rw [if_pos hu]
    subst hl
    exact wok_of h1 h2 (od_of fun k hk => h3 k hk (by omega))
  · rw [if_neg hu]
    have e : b.length - u - 1 = wh := by omega
    have hlen : (b.take wh).length = wh := by rw [List.length_take]; omega
    rw [e, Bool.and_eq_true, Bool.and_eq_true, Bool.and_eq_true, decide_eq_true_eq, beq_iff_eq]
    refine ⟨⟨⟨by omega, h4 hu⟩, wok_of (by omega) (fun hl => ?_) (od_of fun k hk => ?_)⟩, od_of fun k hk => ?_⟩
    · rw [getD_take' (by omega)]; exact h2 (by omega)
    · rw [hlen] at hk
      rw [getD_take' hk]; exact h3 k (by omega) (by omega)
    · rw [List.length_drop] at hk
      rw [getD_drop']; exact h3 _ (by omega) (by omega)
theorem wh_uniq {u a c : Nat} {b : List UInt8} (h : WhB u a b) (k : WhB u c b) : a = c := by
  unfold WhB at h k; omega
theorem frm_no {u : Nat} {b : List UInt8} (h : ∀ wh, WhB u wh b → 1 ≤ wh → (1 < wh ∧ b.getD 0 0 = 48) ∨ (∃ k, k < b.length ∧ k ≠ wh ∧ dgB (b.getD k 0) = false) ∨ (u ≠ 0 ∧ b.getD wh 0 ≠ 46)) : frmB u b = false := by
  rw [Bool.eq_false_iff]
  intro e
  obtain ⟨wh, h1, h2, h3, h4, h5⟩ := frm_parts e
  rcases h wh h1 h2 with ⟨g1, g2⟩ | ⟨k, g1, g2, g3⟩ | ⟨g1, g2⟩
  · exact h3 g1 g2
  · rw [h4 k g1 g2] at g3; cases g3
  · exact g2 (h5 g1)
theorem frmN_eN {u wh : Nat} {b : List UInt8} (h : WhB u wh b) : frmN u b = vl 10 (dgs (eN wh b.length b)) := by
  unfold frmN eN
  rcases h with ⟨hu, hl⟩ | ⟨hu, hl⟩
  · rw [if_pos hu]
    subst hl
    rw [Nat.min_self, List.take_length, List.drop_eq_nil_of_le (by omega), List.take_nil, List.append_nil]
  · rw [if_neg hu, show b.length - u - 1 = wh by omega, show b.length - u = wh + 1 by omega, Nat.min_eq_right (by omega), List.take_of_length_le (l := b.drop (wh + 1)) (by rw [List.length_drop]; omega)]
theorem eN_zero (wh : Nat) (b : List UInt8) : eN wh 0 b = [] := by unfold eN; simp
theorem take_snoc' {l : List UInt8} {k : Nat} (h : k < l.length) : l.take (k + 1) = l.take k ++ [l.getD k 0] := by
  rw [List.take_add_one, List.getElem?_eq_getElem h, List.getD_eq_getElem?_getD, List.getElem?_eq_getElem h]; rfl
theorem eN_pt (wh : Nat) (b : List UInt8) : eN wh (wh + 1) b = eN wh wh b := by
  unfold eN
  rw [show wh + 1 - wh - 1 = 0 by omega, show wh - wh - 1 = 0 by omega, Nat.min_self, Nat.min_eq_right (by omega)]
theorem eN_step {wh k : Nat} {b : List UInt8} (hk : k < b.length) (hne : k ≠ wh) : eN wh (k + 1) b = eN wh k b ++ [b.getD k 0] := by
  unfold eN
  rcases Nat.lt_or_ge k wh with h | h
  · rw [Nat.min_eq_left (by omega), Nat.min_eq_left (by omega), take_snoc' hk, show k + 1 - wh - 1 = 0 by omega, show k - wh - 1 = 0 by omega, List.take_zero, List.append_nil, List.append_nil]
  · obtain ⟨j, rfl⟩ : ∃ j, k = wh + 1 + j := ⟨k - wh - 1, by omega⟩
    rw [Nat.min_eq_right (by omega), Nat.min_eq_right (by omega), show wh + 1 + j + 1 - wh - 1 = j + 1 by omega, show wh + 1 + j - wh - 1 = j by omega, take_snoc' (by rw [List.length_drop]; omega), getD_drop', List.append_assoc]
/-- Its number so far. -/
def nuM (wh k : Nat) (b : List UInt8) : Nat := vl 10 (dgs (eN wh k b))
theorem nu_zero (wh : Nat) (b : List UInt8) : nuM wh 0 b = 0 := by unfold nuM; rw [eN_zero]; rfl
theorem nu_pt (wh : Nat) (b : List UInt8) : nuM wh (wh + 1) b = nuM wh wh b := by unfold nuM; rw [eN_pt]
theorem nu_step {wh k : Nat} {b : List UInt8} (hk : k < b.length) (hne : k ≠ wh) : nuM wh (k + 1) b = dv (b.getD k 0) + 10 * nuM wh k b := by
  unfold nuM; rw [eN_step hk hne, dgs_concat]; rfl
theorem dgB_iffM (c : UInt8) (x : Int) (hx : (c.toNat : Int) = x) : (dgB c = true ↔ 48 ≤ x ∧ x ≤ 57) ∧ (48 ≤ x → (dv c : Int) = x - 48) := by
  unfold dgB dv
  rw [Bool.and_eq_true, decide_eq_true_eq, decide_eq_true_eq]
  simp only [UInt8.le_iff_toNat_le]
  have e1 : (48 : UInt8).toNat = 48 := rfl
  have e2 : (57 : UInt8).toNat = 57 := rfl
  omega
theorem tk_at (l : List UInt8) : (∀ k, k < (tk32 l).length → k < l.length ∧ l.getD k 0 ≠ 32 ∧ l.getD k 0 = (tk32 l).getD k 0) ∧ (tk32 l).length ≤ l.length ∧ ((tk32 l).length < l.length → l.getD (tk32 l).length 0 = 32 ∧ dr32 l = 32 :: l.drop ((tk32 l).length + 1)) ∧ ((tk32 l).length = l.length → dr32 l = []) := by
  have h := tk_dr l
  have hl : (tk32 l).length + (dr32 l).length = l.length := by rw [← List.length_append, h]
  have hg2 : ∀ k, l.getD k 0 = (tk32 l ++ dr32 l).getD k 0 := fun k => by rw [h]
  have hd2 : ∀ k, l.drop k = (tk32 l ++ dr32 l).drop k := fun k => by rw [h]
  have hg : ∀ k, k < (tk32 l).length → l.getD k 0 = (tk32 l).getD k 0 := fun k hk => by
    rw [hg2]
    rw [List.getD_eq_getElem?_getD, List.getD_eq_getElem?_getD, List.getElem?_append_left hk]
  refine ⟨fun k hk => ⟨by omega, ?_, hg k hk⟩, by omega, fun hlt => ?_, fun e => List.eq_nil_of_length_eq_zero (by omega)⟩
  · rw [hg k hk]
    refine tk_no l _ ?_
    rw [List.getD_eq_getElem?_getD, List.getElem?_eq_getElem hk]
    exact List.getElem_mem hk
  · rcases dr_head l with g | ⟨r, g⟩
    · rw [g] at hl; simp at hl; omega
    · refine ⟨?_, ?_⟩
      · rw [hg2]
        rw [List.getD_eq_getElem?_getD, List.getElem?_append_right (Nat.le_refl _), Nat.sub_self, g]; rfl
      · rw [g]
        congr 1
        rw [hd2, g, List.drop_append, List.drop_eq_nil_of_le (by omega), show (tk32 l).length + 1 - (tk32 l).length = 1 by omega]
        rfl
/-- When Read refuses. -/
theorem rd_no_dr {l : List UInt8} (h : dr32 l = []) : rdE7 l = 12 := by unfold rdE7; rw [h]
theorem rd_no_name {l c : List UInt8} (h : dr32 l = 32 :: c) (hn : nameB c = false) : rdE7 l = 12 := by
  unfold rdE7; rw [h]; simp only; rw [hn, Bool.false_and, Bool.false_and, if_neg (by decide)]
theorem rd_no_frm {l c : List UInt8} (h : dr32 l = 32 :: c) (hf : frmB (unU c) (bod (tk32 l)) = false) : rdE7 l = 12 := by
  unfold rdE7; rw [h]; simp only; rw [hf, Bool.and_false, Bool.false_and, if_neg (by decide)]
theorem rd_no_zero {l c : List UInt8} (h : dr32 l = 32 :: c) (hg : ngB (tk32 l) = true) (hz : frmN (unU c) (bod (tk32 l)) = 0) : rdE7 l = 12 := by
  unfold rdE7; rw [h]; simp only; rw [hg, hz, Bool.true_and, decide_eq_true rfl, Bool.not_true, Bool.and_false, if_neg (by decide)]
theorem rd_yes {l c : List UInt8} (h : dr32 l = 32 :: c) (hn : nameB c = true) (hf : frmB (unU c) (bod (tk32 l)) = true) (hg : ngB (tk32 l) = false ∨ frmN (unU c) (bod (tk32 l)) ≠ 0) :
    rdE7 l = if 1125899906842624 < frmN (unU c) (bod (tk32 l)) then 14 else 0 := by
  unfold rdE7; rw [h]; simp only
  rw [hn, hf, Bool.true_and, Bool.true_and, if_pos]
  rcases hg with g | g
  · rw [g]; rfl
  · rw [decide_eq_false g, Bool.and_false]; rfl
end Go.Proofs.YtalnfbgaiegicaaGreatDoor

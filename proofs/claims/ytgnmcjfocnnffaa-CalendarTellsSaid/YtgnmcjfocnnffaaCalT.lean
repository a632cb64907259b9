/- Layer 4, plain: the days of both of two calendars, in order, each once. -/
import Derived.Test.YtgnmcjfocnnffaaCalA
import Derived.Lib.SlicesCompact
namespace Go.Proofs.Ytgnmcjfocnnffaa
open Go Go.RowKit Go.Lib

theorem ordB_of {l : List Int} (h : l.Pairwise (· < ·)) (hd : ∀ x ∈ l, 0 ≤ x ∧ x ≤ 99999) : ordB l = true := by
  induction l with
  | nil => rfl
  | cons a r ih =>
    have h1 := List.pairwise_cons.1 h
    have hr := ih h1.2 (fun x hx => hd x (List.mem_cons_of_mem _ hx))
    have ha : dayB a = true := (dayB_iff a).2 (hd a (by simp))
    cases r with
    | nil => exact ha
    | cons b r =>
      have hb := h1.1 b (by simp)
      simp [ordB, ha, hb, hr]
/-- Two lists in strict order with the same elements are one. -/
theorem strict_ext : ∀ {xs ys : List Int}, xs.Pairwise (· < ·) → ys.Pairwise (· < ·) → (∀ a, a ∈ xs ↔ a ∈ ys) → xs = ys
  | [], [], _, _, _ => rfl
  | [], y :: ys, _, _, h => absurd ((h y).2 (by simp)) (by simp)
  | x :: xs, [], _, _, h => absurd ((h x).1 (by simp)) (by simp)
  | x :: xs, y :: ys, hx, hy, h => by
    have h1 := List.pairwise_cons.1 hx
    have h2 := List.pairwise_cons.1 hy
    have e : x = y := by
      rcases List.mem_cons.1 ((h x).1 (by simp)) with e | hm
      · exact e
      · rcases List.mem_cons.1 ((h y).2 (by simp)) with e | hm'
        · exact e.symm
        · have := h2.1 x hm; have := h1.1 y hm'; omega
    subst e
    rw [strict_ext h1.2 h2.2 (fun a => ?_)]
    constructor
    · intro ha
      rcases List.mem_cons.1 ((h a).1 (List.mem_cons_of_mem _ ha)) with e | hm
      · subst e; have := h1.1 a ha; omega
      · exact hm
    · intro ha
      rcases List.mem_cons.1 ((h a).2 (List.mem_cons_of_mem _ ha)) with e | hm
      · subst e; have := h2.1 a ha; omega
      · exact hm

/-- What of a list in order is kept when runs are cut. -/
theorem compactUp_sorted (d : Array Int) (hs : ∀ i j, i ≤ j → j < d.size → d[i]! ≤ d[j]!) : ∀ m, m ≤ d.size →
    (compactUpTo d m).Pairwise (· < ·) ∧ (∀ x ∈ compactUpTo d m, ∃ j, j < m ∧ x = d[j]!) ∧ (∀ j, j < m → d[j]! ∈ compactUpTo d m) := by
  intro m
  induction m with
  | zero => intro _; exact ⟨List.Pairwise.nil, fun x hx => by simp [compactUpTo] at hx, fun j hj => absurd hj (by omega)⟩
  | succ m ih =>
    intro hm
    obtain ⟨h1, h2, h3⟩ := ih (by omega)
    rw [compactUpTo_succ]
    by_cases hk : keeps d m = true
    · rw [if_pos hk]
      refine ⟨?_, ?_, ?_⟩
      · rw [List.pairwise_append]
        refine ⟨h1, List.pairwise_singleton _ _, fun a ha b hb => ?_⟩
        obtain rfl : b = d[m]! := by simpa using hb
        obtain ⟨j, hj, rfl⟩ := h2 a ha
        have hne : d[m]! ≠ d[m - 1]! := by
          simp only [keeps, decide_eq_true_eq] at hk
          rcases hk with e | e
          · omega
          · exact e
        have := hs j (m - 1) (by omega) (by omega)
        have := hs (m - 1) m (by omega) (by omega)
        omega
      · intro x hx
        rcases List.mem_append.1 hx with hx | hx
        · obtain ⟨j, hj, e⟩ := h2 x hx
          exact ⟨j, by omega, e⟩
        · exact ⟨m, by omega, by simpa using hx⟩
      · intro j hj
        by_cases e : j = m
        · subst e; simp
        · exact List.mem_append_left _ (h3 j (by omega))
    · rw [if_neg hk, List.append_nil]
      have hk' : ¬ (m = 0 ∨ d[m]! ≠ d[m - 1]!) := by simpa [keeps] using hk
      have he : m ≠ 0 ∧ d[m]! = d[m - 1]! := by
        refine ⟨fun e => hk' (.inl e), ?_⟩
        by_cases h : d[m]! = d[m - 1]!
        · exact h
        · exact absurd (.inr h) hk'
      refine ⟨h1, fun x hx => ?_, fun j hj => ?_⟩
      · obtain ⟨j, hj, e⟩ := h2 x hx
        exact ⟨j, by omega, e⟩
      · by_cases e : j = m
        · subst e; rw [he.2]; exact h3 _ (by omega)
        · exact h3 j (by omega)
theorem compact_sorted {l : List Int} (h : l.Pairwise (· ≤ ·)) : (compact l).Pairwise (· < ·) ∧ ∀ x, x ∈ compact l ↔ x ∈ l := by
  have key := compactUp_sorted l.toArray (fun i j hij hj => by
    have hj' : j < l.length := by simpa using hj
    rw [getElem!_pos l.toArray i (by simp; omega), getElem!_pos l.toArray j (by simpa using hj')]
    by_cases e : i = j
    · subst e; exact Int.le_refl _
    · simpa using List.pairwise_iff_getElem.1 h i j (by omega) hj' (by omega)) l.length (by simp)
  refine ⟨key.1, fun x => ⟨fun hx => ?_, fun hx => ?_⟩⟩
  · obtain ⟨j, hj, rfl⟩ := key.2.1 x hx
    rw [getElem!_pos l.toArray j (by simpa using hj)]
    simp
  · obtain ⟨j, hj, rfl⟩ := List.getElem_of_mem hx
    have := key.2.2 j hj
    rw [getElem!_pos l.toArray j (by simpa using hj)] at this
    show l[j] ∈ compactUpTo l.toArray l.length
    simpa using this

/-- The days of both. -/
def uniL (xs ys : List Int) : List Int := compact ((xs ++ ys).mergeSort fun x y => decide (x ≤ y))
theorem uniL_spec (xs ys : List Int) : (uniL xs ys).Pairwise (· < ·) ∧ ∀ a, a ∈ uniL xs ys ↔ a ∈ xs ∨ a ∈ ys := by
  have hs : ((xs ++ ys).mergeSort fun x y => decide (x ≤ y)).Pairwise (· ≤ ·) := by
    have := List.pairwise_mergeSort (le := fun x y : Int => decide (x ≤ y)) (fun a b c h1 h2 => by simp at *; omega) (fun a b => by simp; omega) (xs ++ ys)
    exact this.imp (fun h => by simpa using h)
  obtain ⟨h1, h2⟩ := compact_sorted hs
  refine ⟨h1, fun a => ?_⟩
  rw [show uniL xs ys = compact ((xs ++ ys).mergeSort fun x y => decide (x ≤ y)) from rfl, h2, List.mem_mergeSort, List.mem_append]
theorem uniL_comm (xs ys : List Int) : uniL xs ys = uniL ys xs :=
  strict_ext (uniL_spec _ _).1 (uniL_spec _ _).1 (fun a => by rw [(uniL_spec xs ys).2, (uniL_spec ys xs).2]; exact Or.comm)
theorem uniL_self {xs : List Int} (h : xs.Pairwise (· < ·)) : uniL xs xs = xs :=
  strict_ext (uniL_spec _ _).1 h (fun a => by rw [(uniL_spec xs xs).2]; simp)
theorem uniL_ord {xs ys : List Int} (hx : ordB xs = true) (hy : ordB ys = true) : ordB (uniL xs ys) = true :=
  ordB_of (uniL_spec _ _).1 (fun a ha => by
    rcases ((uniL_spec xs ys).2 a).1 ha with h | h
    · exact ordB_day hx a h
    · exact ordB_day hy a h)
theorem uniL_contains (xs ys : List Int) (d : Int) : (uniL xs ys).contains d = (xs.contains d || ys.contains d) := by
  rw [Bool.eq_iff_iff, Bool.or_eq_true, List.contains_iff_mem, List.contains_iff_mem, List.contains_iff_mem]
  exact (uniL_spec xs ys).2 d
theorem uniL_len (xs ys : List Int) : (uniL xs ys).length ≤ xs.length + ys.length := by
  unfold uniL compact compactUpTo
  rw [List.length_map]
  refine Nat.le_trans (List.length_filter_le _ _) ?_
  simp
end Go.Proofs.Ytgnmcjfocnnffaa

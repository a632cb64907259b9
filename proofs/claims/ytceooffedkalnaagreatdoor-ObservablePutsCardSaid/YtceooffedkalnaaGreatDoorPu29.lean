/- Layer 8: what Put and Choose leave, as something known. -/
import Derived.Test.YtceooffedkalnaaGreatDoorPu23
import Derived.Test.YtceooffedkalnaaGreatDoorPu28
namespace Go.Proofs.YtceooffedkalnaaGreatDoor
open Go Go.RowKit Go.BigFrame
theorem putFE_cases {fs : List Fx} {cs : List Cx} {f : Fx} (h : putFE fs cs f = 0) : envE fs cs = 0 ∧ nameO f.1.data.toList = true ∧ dayO f.2.1 = true ∧ chkR f.2.2.data.toList = 0 ∧ (insL Fx.key f fs).length ≤ 1000 := by
  have hd : putFE fs cs f = if envE fs cs ≠ 0 then envE fs cs else if (nameO f.1.data.toList && dayO f.2.1) = false then 2 else if chkR f.2.2.data.toList ≠ 0 then chkR f.2.2.data.toList else if 1000 < (insL Fx.key f fs).length then 22 else 0 := rfl
  rw [hd] at h
  by_cases h1 : envE fs cs = 0
  · rw [if_neg (by simp [h1])] at h
    cases hB : (nameO f.1.data.toList && dayO f.2.1)
    · rw [hB, if_pos rfl] at h; cases h
    · rw [hB, if_neg (by decide)] at h
      rw [Bool.and_eq_true] at hB
      by_cases h2 : chkR f.2.2.data.toList = 0
      · rw [if_neg (by simp [h2])] at h
        by_cases h3 : 1000 < (insL Fx.key f fs).length
        · rw [if_pos h3] at h; cases h
        · exact ⟨h1, hB.1, hB.2, h2, by omega⟩
      · rw [if_pos h2] at h; exact absurd h h2
  · rw [if_pos h1] at h; exact absurd h h1
theorem choE_cases {fs : List Fx} {cs : List Cx} {c : Cx} (h : choE fs cs c = 0) : envE fs cs = 0 ∧ nameO c.1.data.toList = true ∧ nameO c.2.1.data.toList = true ∧ dayO c.2.2.1 = true ∧ (insL Cx.key c cs).length ≤ 1000 := by
  unfold choE at h
  by_cases h1 : envE fs cs = 0
  · rw [if_neg (by simp [h1])] at h
    cases hB : (nameO c.1.data.toList && nameO c.2.1.data.toList && dayO c.2.2.1)
    · rw [hB, if_pos rfl] at h; cases h
    · rw [hB, if_neg (by decide)] at h
      rw [Bool.and_eq_true, Bool.and_eq_true] at hB
      by_cases h3 : 1000 < (insL Cx.key c cs).length
      · rw [if_pos h3] at h; cases h
      · exact ⟨h1, hB.1.1, hB.1.2, hB.2, by omega⟩
  · rw [if_pos h1] at h; exact absurd h h1
theorem putFL_len (fs : List Fx) (cs : List Cx) (f : Fx) : (putFL fs cs f).length ≤ 1000 := by
  unfold putFL
  split
  · next h => exact (putFE_cases h).2.2.2.2
  · simp
theorem putFC_len (fs : List Fx) (cs : List Cx) (f : Fx) : (putFC fs cs f).length ≤ 1000 := by
  unfold putFC
  split
  · next h => exact (envE_zero (putFE_cases h).1).2.1
  · simp
theorem choFL_len (fs : List Fx) (cs : List Cx) (c : Cx) : (choFL fs cs c).length ≤ 1000 := by
  unfold choFL
  split
  · next h => exact (envE_zero (choE_cases h).1).1
  · simp
theorem choCL_len (fs : List Fx) (cs : List Cx) (c : Cx) : (choCL fs cs c).length ≤ 1000 := by
  unfold choCL
  split
  · next h => exact (choE_cases h).2.2.2.2
  · simp
theorem putFL_mem {fs : List Fx} {cs : List Cx} {f z : Fx} (h : z ∈ putFL fs cs f) : z = f ∨ z ∈ fs := by
  unfold putFL at h
  split at h
  · next g =>
    rcases (mem_insL (inc_of (envE_zero (putFE_cases g).1).2.2.1).1 z).1 h with e | ⟨e, -⟩
    · exact .inl e
    · exact .inr e
  · cases h
theorem putFC_mem {fs : List Fx} {cs : List Cx} {f : Fx} {z : Cx} (h : z ∈ putFC fs cs f) : z ∈ cs := by
  unfold putFC at h
  split at h
  · exact h
  · cases h
theorem choFL_mem {fs : List Fx} {cs : List Cx} {c : Cx} {z : Fx} (h : z ∈ choFL fs cs c) : z ∈ fs := by
  unfold choFL at h
  split at h
  · exact h
  · cases h
theorem choCL_mem {fs : List Fx} {cs : List Cx} {c z : Cx} (h : z ∈ choCL fs cs c) : z = c ∨ z ∈ cs := by
  unfold choCL at h
  split at h
  · next g =>
    rcases (mem_insL (inc_of (envE_zero (choE_cases g).1).2.2.2).1 z).1 h with e | ⟨e, -⟩
    · exact .inl e
    · exact .inr e
  · cases h
theorem PutO.ev {L : List Fx} {C : List Cx} {e : Int} {w w' : World} {x : Ending} (h : PutO L C e w x w') (l1 : L.length ≤ 1000) (l2 : C.length ≤ 1000) (b1 : ∀ f ∈ L, f.1.size ≤ 140737488351232 ∧ f.2.2.size ≤ 140737488351232) (b2 : ∀ c ∈ C, c.1.size ≤ 140737488351232 ∧ c.2.1.size ≤ 140737488351232) :
    ∃ A c A2 c2, x = .returned (.tuple #[.agg #[.slice A L.length c, .slice A2 C.length c2], .int .i64 e]) ∧ Ev.In w' ⟨A, L, c, A2, C, c2⟩ ∧ CapR A L.length c ∧ CapR A2 C.length c2 ∧
      w'.ownsRow w.heap.size 44 3 (.slice A L.length c) L.length (rowsV fxC L) ∧ w'.ownsRow w.heap.size 47 4 (.slice A2 C.length c2) C.length (rowsV cxC C) ∧ Below w.heap.size w w' := by
  obtain ⟨v1, v2, rfl, h1, h2, hb⟩ := h
  obtain ⟨A, c, rfl, -, r1, n1, -, k1, m1⟩ := RowsR.of_own fxC_len (by decide) h1
  obtain ⟨A2, c2, rfl, -, r2, n2, -, k2, m2⟩ := RowsR.of_own cxC_len (by decide) h2
  exact ⟨A, c, A2, c2, rfl, ⟨r1, r2, by show L.length ≤ _; omega, by show C.length ≤ _; omega, b1, b2⟩, ⟨k1, m1, n1⟩, ⟨k2, m2, n2⟩, h1, h2, hb⟩
theorem put_env {fs : List Fx} {cs : List Cx} {f : Fx} (h : putFE fs cs f = 0) : envE (putFL fs cs f) (putFC fs cs f) = 0 := by
  obtain ⟨h1, h2, h3, h4, h5⟩ := putFE_cases h
  obtain ⟨l1, l2, o1, o2⟩ := envE_zero h1
  unfold putFL putFC
  rw [h, if_pos rfl, if_pos rfl]
  unfold envE
  rw [if_neg (by omega), ordB_put o1 (by unfold Fx.ok; rw [h2, h3, decide_eq_true h4]; rfl), o2]
  rfl
theorem cho_env {fs : List Fx} {cs : List Cx} {c : Cx} (h : choE fs cs c = 0) : envE (choFL fs cs c) (choCL fs cs c) = 0 := by
  obtain ⟨h1, h2, h3, h4, h5⟩ := choE_cases h
  obtain ⟨l1, l2, o1, o2⟩ := envE_zero h1
  unfold choFL choCL
  rw [h, if_pos rfl, if_pos rfl]
  unfold envE
  rw [if_neg (by omega), o1, ordB_put o2 (by unfold Cx.ok; rw [h2, h3, h4]; rfl)]
  rfl
end Go.Proofs.YtceooffedkalnaaGreatDoor

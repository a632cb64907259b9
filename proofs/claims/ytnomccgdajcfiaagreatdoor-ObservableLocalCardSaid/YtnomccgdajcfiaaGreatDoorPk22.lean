/- Joined: ObP, ObQ, ObW2. -/
import Derived.Test.YtnomccgdajcfiaaGreatDoorPk19
import Derived.Test.YtnomccgdajcfiaaGreatDoorPk21
/- Layer 8: fixBefore, pickBefore, CheckEnv of the reference. -/
namespace Go.Proofs.YtnomccgdajcfiaaGreatDoor
open Go Go.RowKit Go.BigFrame
theorem str_ord (a b : ByteArray) : (bl a.data.toList b.data.toList = true ∧ Op.bytesLess a.toList b.toList = true ∧ (a.toList == b.toList) = false) ∨ (a = b ∧ Op.bytesLess a.toList a.toList = false) ∨ (bl b.data.toList a.data.toList = true ∧ Op.bytesLess a.toList b.toList = false ∧ (a.toList == b.toList) = false ∧ Op.bytesLess b.toList a.toList = true) := by
  rcases str_cases a b with rfl | h
  · exact .inr (.inl ⟨rfl, by rw [Lib.toList_data]; exact bl_irrefl _⟩)
  · rw [Lib.toList_data, Lib.toList_data] at *
    cases h1 : Op.bytesLess a.data.toList b.data.toList
    · cases h2 : Op.bytesLess b.data.toList a.data.toList
      · exfalso
        have := bl_total h1 h2
        rw [this] at h
        simp at h
      · exact .inr (.inr ⟨h2, rfl, h, rfl⟩)
    · exact .inl ⟨h1, rfl, h⟩
end Go.Proofs.YtnomccgdajcfiaaGreatDoor
/- Layer 8: CheckEnv of the reference. -/
namespace Go.Proofs.YtnomccgdajcfiaaGreatDoor
open Go Go.RowKit Go.BigFrame
def envE (fs : List Fx) (cs : List Cx) : Int := if 1000 < fs.length ∨ 1000 < cs.length then 4 else if ordB Fx.key Fx.ok fs && ordB Cx.key Cx.ok cs then 0 else 8
theorem calls_bel {P : Program} {f : FuncId} {args : Array Value} {w : World} {v : Value} (h : Calls P f args w fun e w' => e = .returned v ∧ w = w') : Calls P f args w fun e w' => e = .returned v ∧ Below w.heap.size w w' :=
  h.mono fun _ _ ⟨h1, h2⟩ => ⟨h1, h2 ▸ Below.refl _ _⟩
end Go.Proofs.YtnomccgdajcfiaaGreatDoor
/- Layer 8, plain: ordered lists and a thing put in its place: members, order, two things put. -/
namespace Go.Proofs.YtnomccgdajcfiaaGreatDoor
open Go Go.RowKit
section
variable {α : Type} {key : α → Key}
theorem Inc.cons {y : α} {l : List α} (h : ∀ z ∈ l, ltK (key y) (key z) = true) (hl : Inc key l) : Inc key (y :: l) := fun i j hi hj => by
  cases j with
  | zero => omega
  | succ j =>
    cases i with
    | zero => exact h _ (List.getElem_mem _)
    | succ i => exact hl i j (by omega) (by simpa using hj)
theorem inc_behind {x y : α} {l : List α} (h : Inc key (y :: l)) (hy : ltK (key y) (key x) = false) : ∀ z ∈ l, key z ≠ key x := fun z hz e => by
  have := h.head z hz
  rw [e, hy] at this; cases this
theorem mem_insL {x : α} {l : List α} (h : Inc key l) (z : α) : z ∈ insL key x l ↔ z = x ∨ (z ∈ l ∧ key z ≠ key x) := by
  rw [← rfL_eq l h]
  induction l with
  | nil => simp [rfL]
  | cons y l ih =>
    rw [rfL]
    cases hy : ltK (key y) (key x)
    · simp only [Bool.not_false, Bool.and_self, if_true, Bool.or_true]
      rw [rfL_true l (inc_behind h hy)]
      have hb := inc_behind h hy
      by_cases e : key y = key x
      · rw [if_pos e]
        simp only [List.nil_append, List.cons_append, List.mem_cons]
        constructor
        · rintro (g | g)
          · exact .inl g
          · exact .inr ⟨.inr g, hb z g⟩
        · rintro (g | ⟨g | g, k⟩)
          · exact .inl g
          · rw [g] at k; exact absurd e k
          · exact .inr g
      · rw [if_neg e]
        simp only [List.nil_append, List.cons_append, List.mem_cons]
        constructor
        · rintro (g | g | g)
          · exact .inl g
          · exact .inr ⟨.inl g, by rw [g]; exact e⟩
          · exact .inr ⟨.inr g, hb z g⟩
        · rintro (g | ⟨g | g, k⟩)
          · exact .inl g
          · exact .inr (.inl g)
          · exact .inr (.inr g)
    · have e : key y ≠ key x := fun e => by rw [e, ltK_irrefl] at hy; cases hy
      simp only [Bool.not_true, Bool.and_false, Bool.false_eq_true, if_false, Bool.or_false, if_neg e, List.nil_append, List.cons_append, List.mem_cons]
      rw [ih h.tail]
      constructor
      · rintro (g | g | ⟨g, k⟩)
        · exact .inr ⟨.inl g, by rw [g]; exact e⟩
        · exact .inl g
        · exact .inr ⟨.inr g, k⟩
      · rintro (g | ⟨g | g, k⟩)
        · exact .inr (.inl g)
        · exact .inl g
        · exact .inr (.inr ⟨g, k⟩)
theorem insL_inc {x : α} {l : List α} (h : Inc key l) : Inc key (insL key x l) := by
  rw [← rfL_eq l h]
  induction l with
  | nil =>
    simp only [rfL, Bool.false_eq_true, if_false]
    exact Inc.cons (fun z hz => by cases hz) h
  | cons y l ih =>
    have hb := fun hy => inc_behind (x := x) h hy
    rw [rfL]
    cases hy : ltK (key y) (key x)
    · simp only [Bool.not_false, Bool.and_self, if_true, Bool.or_true]
      rw [rfL_true l (hb hy)]
      by_cases e : key y = key x
      · rw [if_pos e]
        simp only [List.nil_append, List.cons_append]
        exact Inc.cons (fun z hz => by rw [← e]; exact h.head z hz) h.tail
      · rw [if_neg e]
        simp only [List.nil_append, List.cons_append]
        have hxy : ltK (key x) (key y) = true := by
          cases g : ltK (key x) (key y)
          · exact absurd (ltK_total hy g) e
          · rfl
        refine Inc.cons (fun z hz => ?_) h
        rcases List.mem_cons.1 hz with g | g
        · rw [g]; exact hxy
        · exact ltK_trans hxy (h.head z g)
    · have e : key y ≠ key x := fun e => by rw [e, ltK_irrefl] at hy; cases hy
      simp only [Bool.not_true, Bool.and_false, Bool.false_eq_true, if_false, Bool.or_false, if_neg e, List.nil_append, List.cons_append]
      refine Inc.cons (fun z hz => ?_) (ih h.tail)
      rw [rfL_eq l h.tail, mem_insL h.tail] at hz
      rcases hz with g | ⟨g, -⟩
      · rw [g]; exact hy
      · exact h.head z g
end
end Go.Proofs.YtnomccgdajcfiaaGreatDoor

/- Joined: ObA, ObC. -/
import Derived.Test.YtbfimfjhdbpenaaGreatDoorRows
import Derived.WalkKit
import Derived.WalkSpells
import Derived.WalkLawsBesides
import Derived.Lib.Hide
import Derived.Deep.QuietTactic
import Derived.BigQuiet
import Derived.BigRegion
import Derived.WalkSmall
import Derived.Outline
/- Layer 8, plain: expressions as trees; sizes, depths, sorts, what is equal. -/
namespace Go.Proofs.YtbfimfjhdbpenaaGreatDoor
open Go Go.RowKit
inductive Ex where
  | mk (k : Int) (r n : ByteArray) (d : Int) (A : Option Addr) (c : Nat) (sub : List Ex)
namespace Ex
def k : Ex → Int | .mk k _ _ _ _ _ _ => k
def r : Ex → ByteArray | .mk _ r _ _ _ _ _ => r
def n : Ex → ByteArray | .mk _ _ n _ _ _ _ => n
def d : Ex → Int | .mk _ _ _ d _ _ _ => d
def A : Ex → Option Addr | .mk _ _ _ _ A _ _ => A
def c : Ex → Nat | .mk _ _ _ _ _ c _ => c
def sub : Ex → List Ex | .mk _ _ _ _ _ _ s => s
theorem ind {P : Ex → Prop} (h : ∀ k r n d A c sub, (∀ t ∈ sub, P t) → P (.mk k r n d A c sub)) (t : Ex) : P t :=
  Ex.rec (motive_1 := P) (motive_2 := fun l => ∀ t ∈ l, P t) (fun k r n d A c sub ih => h k r n d A c sub ih) (by simp) (fun t l h1 h2 => by
    intro x hx
    rcases List.mem_cons.1 hx with rfl | g
    · exact h1
    · exact h2 x g) t
def cel (t : Ex) : List Value := [.int .u8 t.k, .string t.r, .string t.n, .int .i64 t.d, .slice t.A t.sub.length t.c]
abbrev val (t : Ex) : Value := .agg #[.int .u8 t.k, .string t.r, .string t.n, .int .i64 t.d, .slice t.A t.sub.length t.c]
section
variable {α : Type} (f : Int → ByteArray → ByteArray → Int → List α → α)
mutual
def fold : Ex → α
  | .mk k r n d _ _ s => f k r n d (folds s)
def folds : List Ex → List α
  | [] => []
  | t :: l => fold t :: folds l
end
theorem folds_eq (l : List Ex) : folds f l = l.map (fold f) := by
  induction l with
  | nil => simp [folds]
  | cons t l ih => simp [folds, ih]
theorem fold_mk (k : Int) (r n : ByteArray) (d : Int) (A : Option Addr) (c : Nat) (s : List Ex) : fold f (.mk k r n d A c s) = f k r n d (s.map (fold f)) := by
  rw [fold, folds_eq]
end
def sizF (_ : Int) (_ _ : ByteArray) (_ : Int) (l : List Nat) : Nat := 1 + l.sum
def depF (_ : Int) (_ _ : ByteArray) (_ : Int) (l : List Nat) : Nat := l.foldl max 0 + 1
def bytF (_ : Int) (r n : ByteArray) (_ : Int) (l : List Nat) : Nat := r.size + n.size + l.sum
def siz (t : Ex) : Nat := fold sizF t
def dep (t : Ex) : Nat := fold depF t
def byt (t : Ex) : Nat := fold bytF t
theorem siz_mk (k : Int) (r n : ByteArray) (d : Int) (A : Option Addr) (c : Nat) (s : List Ex) : siz (.mk k r n d A c s) = 1 + (s.map siz).sum := by
  unfold siz; rw [fold_mk]; rfl
theorem dep_mk (k : Int) (r n : ByteArray) (d : Int) (A : Option Addr) (c : Nat) (s : List Ex) : dep (.mk k r n d A c s) = (s.map dep).foldl max 0 + 1 := by
  unfold dep; rw [fold_mk]; rfl
theorem byt_mk (k : Int) (r n : ByteArray) (d : Int) (A : Option Addr) (c : Nat) (s : List Ex) : byt (.mk k r n d A c s) = r.size + n.size + (s.map byt).sum := by
  unfold byt; rw [fold_mk]; rfl
theorem siz_pos (t : Ex) : 1 ≤ t.siz := by cases t; rw [siz_mk]; omega
theorem dep_pos (t : Ex) : 1 ≤ t.dep := by cases t; rw [dep_mk]; omega
end Ex
theorem sum_take {α : Type} (f : α → Nat) (l : List α) (i : Nat) (h : i < l.length) : ((l.take (i + 1)).map f).sum = ((l.take i).map f).sum + f l[i] := by
  rw [List.take_add_one, List.getElem?_eq_getElem h, List.map_append, List.sum_append]
  simp only [Option.toList_some, List.map_cons, List.map_nil, List.sum_cons, List.sum_nil, Nat.add_zero]
theorem sum_take_le {α : Type} (f : α → Nat) (l : List α) (i : Nat) : ((l.take i).map f).sum ≤ (l.map f).sum := by
  have := List.take_append_drop i l
  conv => rhs; rw [← this, List.map_append, List.sum_append]
  omega
theorem sum_all {α : Type} (f : α → Nat) (l : List α) : ((l.take l.length).map f).sum = (l.map f).sum := by rw [List.take_length]
theorem sum_mem {α : Type} (f : α → Nat) (l : List α) {a : α} (h : a ∈ l) : f a ≤ (l.map f).sum := by
  induction l with
  | nil => cases h
  | cons b l ih =>
    rcases List.mem_cons.1 h with rfl | g
    · simp
    · have := ih g; simp only [List.map_cons, List.sum_cons]; omega
theorem max_take {α : Type} (f : α → Nat) (l : List α) (i : Nat) (h : i < l.length) : ((l.take (i + 1)).map f).foldl max 0 = max (((l.take i).map f).foldl max 0) (f l[i]) := by
  rw [List.take_add_one, List.getElem?_eq_getElem h, List.map_append, List.foldl_append]
  simp only [Option.toList_some, List.map_cons, List.map_nil, List.foldl_cons, List.foldl_nil]
theorem foldl_max_le (l : List Nat) : ∀ a b : Nat, l.foldl max a ≤ b ↔ a ≤ b ∧ ∀ x ∈ l, x ≤ b := by
  induction l with
  | nil => intro a b; simp
  | cons x l ih =>
    intro a b
    simp only [List.foldl_cons, List.mem_cons]
    rw [ih]
    constructor
    · rintro ⟨h1, h2⟩
      refine ⟨by omega, ?_⟩
      rintro y (rfl | hy)
      · omega
      · exact h2 y hy
    · rintro ⟨h1, h2⟩
      exact ⟨by have := h2 x (.inl rfl); omega, fun y hy => h2 y (.inr hy)⟩
theorem Ex.dep_le (k : Int) (r n : ByteArray) (d : Int) (A : Option Addr) (c : Nat) (s : List Ex) (b : Nat) : Ex.dep (.mk k r n d A c s) ≤ b + 1 ↔ ∀ t ∈ s, t.dep ≤ b := by
  rw [Ex.dep_mk]
  have := foldl_max_le (s.map Ex.dep) 0 b
  constructor
  · intro h t ht
    exact (this.1 (by omega)).2 _ (List.mem_map_of_mem ht)
  · intro h
    have := this.2 ⟨by omega, fun x hx => by obtain ⟨t, ht, rfl⟩ := List.mem_map.1 hx; exact h t ht⟩
    omega
theorem Ex.siz_sub {k : Int} {r n : ByteArray} {d : Int} {A : Option Addr} {c : Nat} {s : List Ex} {t : Ex} (h : t ∈ s) : t.siz < Ex.siz (.mk k r n d A c s) := by
  rw [Ex.siz_mk]; have := sum_mem Ex.siz s h; omega
theorem Ex.byt_sub {k : Int} {r n : ByteArray} {d : Int} {A : Option Addr} {c : Nat} {s : List Ex} {t : Ex} (h : t ∈ s) : t.byt ≤ Ex.byt (.mk k r n d A c s) := by
  rw [Ex.byt_mk]; have := sum_mem Ex.byt s h; omega
theorem Ex.len_lt {k : Int} {r n : ByteArray} {d : Int} {A : Option Addr} {c : Nat} {s : List Ex} : s.length < Ex.siz (.mk k r n d A c s) := by
  rw [Ex.siz_mk]
  have : s.length ≤ (s.map Ex.siz).sum := by
    induction s with
    | nil => simp
    | cons t l ih => have := t.siz_pos; simp only [List.map_cons, List.sum_cons, List.length_cons]; omega
  omega
end Go.Proofs.YtbfimfjhdbpenaaGreatDoor
/- Layer 8, plain: how the nodes are counted: by the statements' guard, and by Check. -/
namespace Go.Proofs.YtbfimfjhdbpenaaGreatDoor
open Go Go.RowKit
mutual
def Ex.cnt : Ex → Int → Nat → Int × Bool
  | .mk _ _ _ _ _ _ s, L, D => if D = 0 then (1, false) else Ex.cnts s L (D - 1) 1
def Ex.cnts : List Ex → Int → Nat → Int → Int × Bool
  | [], _, _, n => (n, true)
  | t :: l, L, D, n => if n ≤ L then (if (Ex.cnt t (L - n) D).2 then Ex.cnts l L D (n + (Ex.cnt t (L - n) D).1) else (n, false)) else (n, true)
end
theorem Ex.cnt_mk (k : Int) (r n : ByteArray) (d : Int) (A : Option Addr) (c : Nat) (s : List Ex) (L : Int) (D : Nat) : Ex.cnt (.mk k r n d A c s) L D = if D = 0 then (1, false) else Ex.cnts s L (D - 1) 1 := by rw [Ex.cnt]
theorem Ex.cnts_cons (t : Ex) (l : List Ex) (L : Int) (D : Nat) (n : Int) : Ex.cnts (t :: l) L D n = if n ≤ L then (if (Ex.cnt t (L - n) D).2 then Ex.cnts l L D (n + (Ex.cnt t (L - n) D).1) else (n, false)) else (n, true) := by rw [Ex.cnts]
theorem Ex.cnts_nil (L : Int) (D : Nat) (n : Int) : Ex.cnts [] L D n = (n, true) := by rw [Ex.cnts]
theorem Ex.cnts_past (l : List Ex) (L : Int) (D : Nat) (n : Int) (h : L < n) : Ex.cnts l L D n = (n, true) := by
  cases l with
  | nil => rw [Ex.cnts_nil]
  | cons t l => rw [Ex.cnts_cons, if_neg (by omega)]
theorem Ex.cnts_facts (s : List Ex) (ih : ∀ t ∈ s, ∀ (L : Int) (D : Nat), 0 ≤ L → 1 ≤ (Ex.cnt t L D).1 ∧ (Ex.cnt t L D).1 ≤ L + 1 ∧ ((Ex.cnt t L D).2 = true → (Ex.cnt t L D).1 ≤ L → (Ex.cnt t L D).1 = t.siz ∧ t.dep ≤ D)) :
    ∀ (L : Int) (D : Nat) (n : Int), 1 ≤ n → n ≤ L + 1 → n ≤ (Ex.cnts s L D n).1 ∧ (Ex.cnts s L D n).1 ≤ L + 1 ∧ ((Ex.cnts s L D n).2 = true → (Ex.cnts s L D n).1 ≤ L → (Ex.cnts s L D n).1 = n + ((s.map Ex.siz).sum : Nat) ∧ ∀ t ∈ s, t.dep ≤ D) := by
  induction s with
  | nil =>
    intro L D n h0 h1
    rw [Ex.cnts_nil]
    exact ⟨Int.le_refl _, h1, fun _ _ => ⟨by simp, by simp⟩⟩
  | cons t l ih2 =>
    intro L D n h0 h1
    rw [Ex.cnts_cons]
    by_cases h : n ≤ L
    · rw [if_pos h]
      obtain ⟨a1, a2, a3⟩ := ih t (List.mem_cons_self ..) (L - n) D (by omega)
      cases hb : (Ex.cnt t (L - n) D).2
      · simp only [Bool.false_eq_true, if_false]
        exact ⟨Int.le_refl _, h1, fun h => by cases h⟩
      · simp only [if_true]
        obtain ⟨b1, b2, b3⟩ := ih2 (fun t ht => ih t (List.mem_cons_of_mem _ ht)) L D (n + (Ex.cnt t (L - n) D).1) (by omega) (by omega)
        refine ⟨by omega, b2, fun h2 h3 => ?_⟩
        obtain ⟨c1, c2⟩ := b3 h2 h3
        obtain ⟨e1, e2⟩ := a3 hb (by omega)
        refine ⟨by rw [c1, e1, List.map_cons, List.sum_cons]; omega, ?_⟩
        intro x hx
        rcases List.mem_cons.1 hx with rfl | g
        · exact e2
        · exact c2 x g
    · rw [if_neg h]
      exact ⟨Int.le_refl _, h1, fun _ h3 => absurd h3 h⟩
theorem Ex.cnt_facts (t : Ex) : ∀ (L : Int) (D : Nat), 0 ≤ L → 1 ≤ (Ex.cnt t L D).1 ∧ (Ex.cnt t L D).1 ≤ L + 1 ∧ ((Ex.cnt t L D).2 = true → (Ex.cnt t L D).1 ≤ L → (Ex.cnt t L D).1 = t.siz ∧ t.dep ≤ D) := by
  induction t using Ex.ind with
  | h k r n d A c s ih =>
    intro L D h0
    rw [Ex.cnt_mk]
    by_cases hD : D = 0
    · rw [if_pos hD]
      exact ⟨Int.le_refl _, by show (1 : Int) ≤ L + 1; omega, fun h => by cases h⟩
    · rw [if_neg hD]
      obtain ⟨a1, a2, a3⟩ := Ex.cnts_facts s ih L (D - 1) 1 (by omega) (by omega)
      refine ⟨a1, a2, fun h1 h2 => ?_⟩
      obtain ⟨b1, b2⟩ := a3 h1 h2
      refine ⟨by rw [b1, Ex.siz_mk]; omega, ?_⟩
      obtain ⟨D', rfl⟩ : ∃ D', D = D' + 1 := ⟨D - 1, by omega⟩
      exact (Ex.dep_le k r n d A c s D').2 b2
def Ex.grt (t : Ex) : Bool := !(t.cnt 600 100).2 || decide (600 < (t.cnt 600 100).1) || decide (3000 < (t.byt : Int))
theorem Ex.grt_not {t : Ex} (h : t.grt = false) : t.siz ≤ 600 ∧ t.dep ≤ 100 ∧ t.byt ≤ 12000 := by
  unfold Ex.grt at h
  simp only [Bool.or_eq_false_iff, Bool.not_eq_false', decide_eq_false_iff_not] at h
  obtain ⟨⟨h1, h2⟩, h3⟩ := h
  obtain ⟨-, -, a3⟩ := Ex.cnt_facts t 600 100 (by omega)
  obtain ⟨b1, b2⟩ := a3 h1 (by omega)
  omega
theorem Ex.grt_byt {t : Ex} (h : t.grt = false) : t.byt ≤ 3000 := by
  unfold Ex.grt at h
  simp only [Bool.or_eq_false_iff, Bool.not_eq_false', decide_eq_false_iff_not] at h
  obtain ⟨⟨h1, h2⟩, h3⟩ := h
  obtain ⟨-, -, a3⟩ := Ex.cnt_facts t 600 100 (by omega)
  obtain ⟨b1, b2⟩ := a3 h1 (by omega)
  omega
mutual
def Ex.fit : Ex → Nat → Int → Bool × Int
  | .mk _ _ _ _ _ _ s, D, R => if D = 0 ∨ R - 1 < 0 then (false, R - 1) else Ex.fitl s (D - 1) (R - 1)
def Ex.fitl : List Ex → Nat → Int → Bool × Int
  | [], _, R => (true, R)
  | t :: l, D, R => if (Ex.fit t D R).1 then Ex.fitl l D (Ex.fit t D R).2 else (false, (Ex.fit t D R).2)
end
theorem Ex.fit_mk (k : Int) (r n : ByteArray) (d : Int) (A : Option Addr) (c : Nat) (s : List Ex) (D : Nat) (R : Int) : Ex.fit (.mk k r n d A c s) D R = if D = 0 ∨ R - 1 < 0 then (false, R - 1) else Ex.fitl s (D - 1) (R - 1) := by rw [Ex.fit]
theorem Ex.fitl_cons (t : Ex) (l : List Ex) (D : Nat) (R : Int) : Ex.fitl (t :: l) D R = if (Ex.fit t D R).1 then Ex.fitl l D (Ex.fit t D R).2 else (false, (Ex.fit t D R).2) := by rw [Ex.fitl]
theorem Ex.fitl_nil (D : Nat) (R : Int) : Ex.fitl [] D R = (true, R) := by rw [Ex.fitl]
theorem Ex.fitl_facts (s : List Ex) (ih : ∀ t ∈ s, ∀ (D : Nat) (R : Int), 0 ≤ R → -1 ≤ (Ex.fit t D R).2 ∧ (Ex.fit t D R).2 ≤ R ∧ ((Ex.fit t D R).1 = true ↔ t.dep ≤ D ∧ (t.siz : Int) ≤ R) ∧ ((Ex.fit t D R).1 = true → (Ex.fit t D R).2 = R - t.siz)) :
    ∀ (D : Nat) (R : Int), 0 ≤ R → -1 ≤ (Ex.fitl s D R).2 ∧ (Ex.fitl s D R).2 ≤ R ∧ ((Ex.fitl s D R).1 = true ↔ (∀ t ∈ s, t.dep ≤ D) ∧ (((s.map Ex.siz).sum : Nat) : Int) ≤ R) ∧ ((Ex.fitl s D R).1 = true → (Ex.fitl s D R).2 = R - ((s.map Ex.siz).sum : Nat)) := by
  induction s with
  | nil =>
    intro D R h0
    rw [Ex.fitl_nil]
    exact ⟨by show (-1 : Int) ≤ R; omega, Int.le_refl _, by simp [h0], fun _ => by simp⟩
  | cons t l ih2 =>
    intro D R h0
    rw [Ex.fitl_cons]
    obtain ⟨a1, a2, a3, a4⟩ := ih t (List.mem_cons_self ..) D R h0
    cases hb : (Ex.fit t D R).1
    · simp only [Bool.false_eq_true, if_false]
      refine ⟨a1, a2, ?_, fun h => by cases h⟩
      constructor
      · intro h; cases h
      · rintro ⟨h1, h2⟩
        rw [List.map_cons, List.sum_cons] at h2
        have := a3.2 ⟨h1 t (List.mem_cons_self ..), by omega⟩
        rw [hb] at this; cases this
    · simp only [if_true]
      have e4 := a4 hb
      obtain ⟨e1, e2⟩ := a3.1 hb
      obtain ⟨b1, b2, b3, b4⟩ := ih2 (fun t ht => ih t (List.mem_cons_of_mem _ ht)) D (Ex.fit t D R).2 (by omega)
      refine ⟨b1, by omega, ?_, fun h => ?_⟩
      · rw [b3, List.map_cons, List.sum_cons]
        constructor
        · rintro ⟨h1, h2⟩
          refine ⟨?_, by omega⟩
          intro x hx
          rcases List.mem_cons.1 hx with rfl | g
          · exact e1
          · exact h1 x g
        · rintro ⟨h1, h2⟩
          exact ⟨fun x hx => h1 x (List.mem_cons_of_mem _ hx), by omega⟩
      · rw [b4 h, e4, List.map_cons, List.sum_cons]; omega
theorem Ex.fit_facts (t : Ex) : ∀ (D : Nat) (R : Int), 0 ≤ R → -1 ≤ (Ex.fit t D R).2 ∧ (Ex.fit t D R).2 ≤ R ∧ ((Ex.fit t D R).1 = true ↔ t.dep ≤ D ∧ (t.siz : Int) ≤ R) ∧ ((Ex.fit t D R).1 = true → (Ex.fit t D R).2 = R - t.siz) := by
  induction t using Ex.ind with
  | h k r n d A c s ih =>
    intro D R h0
    rw [Ex.fit_mk]
    have hp : 1 ≤ Ex.dep (.mk k r n d A c s) := Ex.dep_pos _
    by_cases hD : D = 0 ∨ R - 1 < 0
    · rw [if_pos hD]
      refine ⟨by show (-1 : Int) ≤ R - 1; omega, by show R - 1 ≤ R; omega, ?_, fun h => by cases h⟩
      constructor
      · intro h; cases h
      · rintro ⟨h1, h2⟩
        rw [Ex.siz_mk] at h2
        omega
    · rw [if_neg hD]
      obtain ⟨a1, a2, a3, a4⟩ := Ex.fitl_facts s ih (D - 1) (R - 1) (by omega)
      refine ⟨a1, by omega, ?_, fun h => by rw [a4 h, Ex.siz_mk]; omega⟩
      rw [a3, Ex.siz_mk]
      obtain ⟨D', rfl⟩ : ∃ D', D = D' + 1 := ⟨D - 1, by omega⟩
      rw [Ex.dep_le]
      constructor
      · rintro ⟨h1, h2⟩; exact ⟨h1, by omega⟩
      · rintro ⟨h1, h2⟩; exact ⟨h1, by omega⟩
def Ex.many (t : Ex) : Bool := decide (500 < t.siz) || decide (60 < t.dep)
theorem Ex.fit_many (t : Ex) : (Ex.fit t 60 500).1 = !t.many := by
  have := (Ex.fit_facts t 60 500 (by omega)).2.2.1
  unfold Ex.many
  cases h : (Ex.fit t 60 500).1
  · rw [h] at this
    symm
    rw [Bool.not_eq_false', Bool.or_eq_true, decide_eq_true_eq, decide_eq_true_eq]
    have h2 : ¬ (t.dep ≤ 60 ∧ (t.siz : Int) ≤ 500) := fun g => Bool.false_ne_true (this.2 g)
    omega
  · rw [h] at this
    have := this.1 rfl
    symm
    rw [Bool.not_eq_true', Bool.or_eq_false_iff, decide_eq_false_iff_not, decide_eq_false_iff_not]
    omega
end Go.Proofs.YtbfimfjhdbpenaaGreatDoor

/- Joined: ObA, CnA, ObC, CnG. -/
import Derived.Test.YtalejbabhjlehaaGreatDoorRows
import Derived.WalkKit
import Derived.WalkSpells
import Derived.WalkLawsBesides
import Derived.Lib.Hide
import Derived.Deep.QuietTactic
import Derived.BigQuiet
import Derived.BigRegion
import Derived.WalkSmall
import Derived.Outline
/- Layer 8, plain: expressions as trees; sizes, depths, sorts, what is equal. -/
namespace Go.Proofs.YtalejbabhjlehaaGreatDoor
open Go Go.RowKit
inductive Ex where
  | mk (k : Int) (r n : ByteArray) (d : Int) (A : Option Addr) (c : Nat) (sub : List Ex)
namespace Ex
def k : Ex → Int | .mk k _ _ _ _ _ _ => k
def r : Ex → ByteArray | .mk _ r _ _ _ _ _ => r
def n : Ex → ByteArray | .mk _ _ n _ _ _ _ => n
def d : Ex → Int | .mk _ _ _ d _ _ _ => d
def A : Ex → Option Addr | .mk _ _ _ _ A _ _ => A
def c : Ex → Nat | .mk _ _ _ _ _ c _ => c
def sub : Ex → List Ex | .mk _ _ _ _ _ _ s => s
theorem ind {P : Ex → Prop} (h : ∀ k r n d A c sub, (∀ t ∈ sub, P t) → P (.mk k r n d A c sub)) (t : Ex) : P t :=
  Ex.rec (motive_1 := P) (motive_2 := fun l => ∀ t ∈ l, P t) (fun k r n d A c sub ih => h k r n d A c sub ih) (by simp) (fun t l h1 h2 => by
    intro x hx
    rcases List.mem_cons.1 hx with rfl | g
    · exact h1
    · exact h2 x g) t
def cel (t : Ex) : List Value := [.int .u8 t.k, .string t.r, .string t.n, .int .i64 t.d, .slice t.A t.sub.length t.c]
abbrev val (t : Ex) : Value := .agg #[.int .u8 t.k, .string t.r, .string t.n, .int .i64 t.d, .slice t.A t.sub.length t.c]
section
variable {α : Type} (f : Int → ByteArray → ByteArray → Int → List α → α)
mutual
def fold : Ex → α
  | .mk k r n d _ _ s => f k r n d (folds s)
def folds : List Ex → List α
  | [] => []
  | t :: l => fold t :: folds l
end
theorem folds_eq (l : List Ex) : folds f l = l.map (fold f) := by
  induction l with
  | nil => simp [folds]
  | cons t l ih => simp [folds, ih]
theorem fold_mk (k : Int) (r n : ByteArray) (d : Int) (A : Option Addr) (c : Nat) (s : List Ex) : fold f (.mk k r n d A c s) = f k r n d (s.map (fold f)) := by
  rw [fold, folds_eq]
end
def sizF (_ : Int) (_ _ : ByteArray) (_ : Int) (l : List Nat) : Nat := 1 + l.sum
def depF (_ : Int) (_ _ : ByteArray) (_ : Int) (l : List Nat) : Nat := l.foldl max 0 + 1
def bytF (_ : Int) (r n : ByteArray) (_ : Int) (l : List Nat) : Nat := r.size + n.size + l.sum
def siz (t : Ex) : Nat := fold sizF t
def dep (t : Ex) : Nat := fold depF t
def byt (t : Ex) : Nat := fold bytF t
theorem siz_mk (k : Int) (r n : ByteArray) (d : Int) (A : Option Addr) (c : Nat) (s : List Ex) : siz (.mk k r n d A c s) = 1 + (s.map siz).sum := by
  unfold siz; rw [fold_mk]; rfl
theorem dep_mk (k : Int) (r n : ByteArray) (d : Int) (A : Option Addr) (c : Nat) (s : List Ex) : dep (.mk k r n d A c s) = (s.map dep).foldl max 0 + 1 := by
  unfold dep; rw [fold_mk]; rfl
theorem byt_mk (k : Int) (r n : ByteArray) (d : Int) (A : Option Addr) (c : Nat) (s : List Ex) : byt (.mk k r n d A c s) = r.size + n.size + (s.map byt).sum := by
  unfold byt; rw [fold_mk]; rfl
theorem siz_pos (t : Ex) : 1 ≤ t.siz := by cases t; rw [siz_mk]; omega
theorem dep_pos (t : Ex) : 1 ≤ t.dep := by cases t; rw [dep_mk]; omega
end Ex
theorem sum_take {α : Type} (f : α → Nat) (l : List α) (i : Nat) (h : i < l.length) : ((l.take (i + 1)).map f).sum = ((l.take i).map f).sum + f l[i] := by
  rw [List.take_add_one, List.getElem?_eq_getElem h, List.map_append, List.sum_append]
  simp only [Option.toList_some, List.map_cons, List.map_nil, List.sum_cons, List.sum_nil, Nat.add_zero]
theorem sum_take_le {α : Type} (f : α → Nat) (l : List α) (i : Nat) : ((l.take i).map f).sum ≤ (l.map f).sum := by
  have := List.take_append_drop i l
  conv => rhs; rw [← this, List.map_append, List.sum_append]
  omega
theorem sum_mem {α : Type} (f : α → Nat) (l : List α) {a : α} (h : a ∈ l) : f a ≤ (l.map f).sum := by
  induction l with
  | nil => cases h
  | cons b l ih =>
    rcases List.mem_cons.1 h with rfl | g
    · simp
    · have := ih g; simp only [List.map_cons, List.sum_cons]; omega
theorem max_take {α : Type} (f : α → Nat) (l : List α) (i : Nat) (h : i < l.length) : ((l.take (i + 1)).map f).foldl max 0 = max (((l.take i).map f).foldl max 0) (f l[i]) := by
  rw [List.take_add_one, List.getElem?_eq_getElem h, List.map_append, List.foldl_append]
  simp only [Option.toList_some, List.map_cons, List.map_nil, List.foldl_cons, List.foldl_nil]
theorem foldl_max_le (l : List Nat) : ∀ a b : Nat, l.foldl max a ≤ b ↔ a ≤ b ∧ ∀ x ∈ l, x ≤ b := by
  induction l with
  | nil => intro a b; simp
  | cons x l ih =>
    intro a b
    simp only [List.foldl_cons, List.mem_cons]
    rw [ih]
    constructor
    · rintro ⟨h1, h2⟩
      refine ⟨by omega, ?_⟩
      rintro y (rfl | hy)
      · omega
      · exact h2 y hy
    · rintro ⟨h1, h2⟩
      exact ⟨by have := h2 x (.inl rfl); omega, fun y hy => h2 y (.inr hy)⟩
theorem Ex.dep_le (k : Int) (r n : ByteArray) (d : Int) (A : Option Addr) (c : Nat) (s : List Ex) (b : Nat) : Ex.dep (.mk k r n d A c s) ≤ b + 1 ↔ ∀ t ∈ s, t.dep ≤ b := by
  rw [Ex.dep_mk]
  have := foldl_max_le (s.map Ex.dep) 0 b
  constructor
  · intro h t ht
    exact (this.1 (by omega)).2 _ (List.mem_map_of_mem ht)
  · intro h
    have := this.2 ⟨by omega, fun x hx => by obtain ⟨t, ht, rfl⟩ := List.mem_map.1 hx; exact h t ht⟩
    omega
theorem Ex.siz_sub {k : Int} {r n : ByteArray} {d : Int} {A : Option Addr} {c : Nat} {s : List Ex} {t : Ex} (h : t ∈ s) : t.siz < Ex.siz (.mk k r n d A c s) := by
  rw [Ex.siz_mk]; have := sum_mem Ex.siz s h; omega
theorem Ex.byt_sub {k : Int} {r n : ByteArray} {d : Int} {A : Option Addr} {c : Nat} {s : List Ex} {t : Ex} (h : t ∈ s) : t.byt ≤ Ex.byt (.mk k r n d A c s) := by
  rw [Ex.byt_mk]; have := sum_mem Ex.byt s h; omega
end Go.Proofs.YtalejbabhjlehaaGreatDoor
/- Layer 9, plain: contracts as trees; sizes, depths, the nodes in their order, the levels. -/
namespace Go.Proofs.YtalejbabhjlehaaGreatDoor
open Go Go.RowKit
inductive Ct where
  | mk (k : Int) (f t n : ByteArray) (x : Ex) (d : Int) (DA : Option Addr) (dl : List Int) (dc : Nat) (A : Option Addr) (c : Nat) (sub : List Ct)
namespace Ct
def k : Ct → Int | .mk k _ _ _ _ _ _ _ _ _ _ _ => k
def f : Ct → ByteArray | .mk _ f _ _ _ _ _ _ _ _ _ _ => f
def t : Ct → ByteArray | .mk _ _ t _ _ _ _ _ _ _ _ _ => t
def n : Ct → ByteArray | .mk _ _ _ n _ _ _ _ _ _ _ _ => n
def x : Ct → Ex | .mk _ _ _ _ x _ _ _ _ _ _ _ => x
def d : Ct → Int | .mk _ _ _ _ _ d _ _ _ _ _ _ => d
def DA : Ct → Option Addr | .mk _ _ _ _ _ _ DA _ _ _ _ _ => DA
def dl : Ct → List Int | .mk _ _ _ _ _ _ _ dl _ _ _ _ => dl
def dc : Ct → Nat | .mk _ _ _ _ _ _ _ _ dc _ _ _ => dc
def A : Ct → Option Addr | .mk _ _ _ _ _ _ _ _ _ A _ _ => A
def c : Ct → Nat | .mk _ _ _ _ _ _ _ _ _ _ c _ => c
def sub : Ct → List Ct | .mk _ _ _ _ _ _ _ _ _ _ _ s => s
theorem ind {P : Ct → Prop} (h : ∀ k f t n x d DA dl dc A c sub, (∀ t ∈ sub, P t) → P (.mk k f t n x d DA dl dc A c sub)) (T : Ct) : P T :=
  Ct.rec (motive_1 := P) (motive_2 := fun l => ∀ t ∈ l, P t) (fun k f t n x d DA dl dc A c sub ih => h k f t n x d DA dl dc A c sub ih) (by simp) (fun t l h1 h2 => by
    intro x hx
    rcases List.mem_cons.1 hx with rfl | g
    · exact h1
    · exact h2 x g) T
def cel (T : Ct) : List Value := [.int .u8 T.k, .string T.f, .string T.t, .string T.n, .int .u8 T.x.k, .string T.x.r, .string T.x.n, .int .i64 T.x.d, .slice T.x.A T.x.sub.length T.x.c, .int .i64 T.d, .slice T.DA T.dl.length T.dc, .slice T.A T.sub.length T.c]
abbrev val (T : Ct) : Value := .agg #[.int .u8 T.k, .string T.f, .string T.t, .string T.n, .int .u8 T.x.k, .string T.x.r, .string T.x.n, .int .i64 T.x.d, .slice T.x.A T.x.sub.length T.x.c, .int .i64 T.d, .slice T.DA T.dl.length T.dc, .slice T.A T.sub.length T.c]
section
variable {α : Type} (g : Int → ByteArray → ByteArray → ByteArray → Ex → Int → List Int → List α → α)
mutual
def fold : Ct → α
  | .mk k f t n x d _ dl _ _ _ s => g k f t n x d dl (folds s)
def folds : List Ct → List α
  | [] => []
  | t :: l => fold t :: folds l
end
theorem folds_eq (l : List Ct) : folds g l = l.map (fold g) := by
  induction l with
  | nil => simp [folds]
  | cons t l ih => simp [folds, ih]
theorem fold_mk (k : Int) (f t n : ByteArray) (x : Ex) (d : Int) (DA : Option Addr) (dl : List Int) (dc : Nat) (A : Option Addr) (c : Nat) (s : List Ct) : fold g (.mk k f t n x d DA dl dc A c s) = g k f t n x d dl (s.map (fold g)) := by
  rw [fold, folds_eq]
end
end Ct
def Ex.bar (x : Ex) : Bool := decide (x.k = 0 ∧ x.r = ⟨#[]⟩ ∧ x.n = ⟨#[]⟩ ∧ x.d = 0 ∧ x.sub.length = 0)
def Ex.xsz (x : Ex) : Nat := if x.bar then 0 else x.siz
def Ex.xdp (x : Ex) : Nat := if x.bar then 0 else x.dep
namespace Ct
def siz (T : Ct) : Nat := fold (fun _ _ _ _ x _ _ l => 1 + x.xsz + l.sum) T
def dep (T : Ct) : Nat := fold (fun _ _ _ _ x _ _ l => l.foldl max x.xdp + 1) T
def num (T : Ct) : Nat := fold (fun _ _ _ _ _ _ _ l => 1 + l.sum) T
def hgt (T : Ct) : Nat := fold (fun _ _ _ _ _ _ _ l => l.foldl max 0 + 1) T
section
variable (k : Int) (f t n : ByteArray) (x : Ex) (d : Int) (DA : Option Addr) (dl : List Int) (dc : Nat) (A : Option Addr) (c : Nat) (s : List Ct)
theorem siz_mk : siz (.mk k f t n x d DA dl dc A c s) = 1 + x.xsz + (s.map siz).sum := by unfold siz; rw [fold_mk]
theorem dep_mk : dep (.mk k f t n x d DA dl dc A c s) = (s.map dep).foldl max x.xdp + 1 := by unfold dep; rw [fold_mk]
theorem num_mk : num (.mk k f t n x d DA dl dc A c s) = 1 + (s.map num).sum := by unfold num; rw [fold_mk]
theorem hgt_mk : hgt (.mk k f t n x d DA dl dc A c s) = (s.map hgt).foldl max 0 + 1 := by unfold hgt; rw [fold_mk]
end
theorem siz_pos (T : Ct) : 1 ≤ T.siz := by cases T; rw [siz_mk]; omega
theorem dep_pos (T : Ct) : 1 ≤ T.dep := by cases T; rw [dep_mk]; omega
theorem num_pos (T : Ct) : 1 ≤ T.num := by cases T; rw [num_mk]; omega
theorem dep_le (k : Int) (f t n : ByteArray) (x : Ex) (d : Int) (DA : Option Addr) (dl : List Int) (dc : Nat) (A : Option Addr) (c : Nat) (s : List Ct) (b : Nat) : dep (.mk k f t n x d DA dl dc A c s) ≤ b + 1 ↔ x.xdp ≤ b ∧ ∀ t ∈ s, t.dep ≤ b := by
  rw [dep_mk]
  have := foldl_max_le (s.map dep) x.xdp b
  constructor
  · intro h
    obtain ⟨h1, h2⟩ := this.1 (by omega)
    exact ⟨h1, fun t ht => h2 _ (List.mem_map_of_mem ht)⟩
  · rintro ⟨h1, h2⟩
    have := this.2 ⟨h1, fun x hx => by obtain ⟨t, ht, rfl⟩ := List.mem_map.1 hx; exact h2 t ht⟩
    omega
theorem hgt_le (k : Int) (f t n : ByteArray) (x : Ex) (d : Int) (DA : Option Addr) (dl : List Int) (dc : Nat) (A : Option Addr) (c : Nat) (s : List Ct) (b : Nat) : hgt (.mk k f t n x d DA dl dc A c s) ≤ b + 1 ↔ ∀ t ∈ s, t.hgt ≤ b := by
  rw [hgt_mk]
  have := foldl_max_le (s.map hgt) 0 b
  constructor
  · intro h
    obtain ⟨h1, h2⟩ := this.1 (by omega)
    exact fun t ht => h2 _ (List.mem_map_of_mem ht)
  · intro h2
    have := this.2 ⟨by omega, fun x hx => by obtain ⟨t, ht, rfl⟩ := List.mem_map.1 hx; exact h2 t ht⟩
    omega
section
variable {k : Int} {f t n : ByteArray} {x : Ex} {d : Int} {DA : Option Addr} {dl : List Int} {dc : Nat} {A : Option Addr} {c : Nat} {s : List Ct} {T : Ct}
theorem siz_sub (h : T ∈ s) : T.siz < siz (.mk k f t n x d DA dl dc A c s) := by rw [siz_mk]; have := sum_mem siz s h; omega
theorem num_sub (h : T ∈ s) : T.num < num (.mk k f t n x d DA dl dc A c s) := by rw [num_mk]; have := sum_mem num s h; omega
theorem len_lt : s.length < num (.mk k f t n x d DA dl dc A c s) := by
  rw [num_mk]
  have : s.length ≤ (s.map num).sum := by
    induction s with
    | nil => simp
    | cons t l ih => have := t.num_pos; simp only [List.map_cons, List.sum_cons, List.length_cons]; omega
  omega
end
theorem num_le_siz (T : Ct) : T.num ≤ T.siz := by
  induction T using ind with
  | h k f t n x d DA dl dc A c s ih =>
    rw [num_mk, siz_mk]
    have : (s.map num).sum ≤ (s.map siz).sum := by
      clear k f t n x d DA dl dc A c
      induction s with
      | nil => simp
      | cons t l ih2 =>
        have h1 := ih t (List.mem_cons_self ..)
        have h2 := ih2 (fun u hu => ih u (List.mem_cons_of_mem _ hu))
        simp only [List.map_cons, List.sum_cons]; omega
    omega
end Ct
/-! The nodes in their order, each with its level. -/
mutual
def Ex.nod : Ex → Nat → List (Nat × Ex)
  | .mk k r n d A c s, L => (L, .mk k r n d A c s) :: Ex.nods s (L + 1)
def Ex.nods : List Ex → Nat → List (Nat × Ex)
  | [], _ => []
  | t :: l, L => Ex.nod t L ++ Ex.nods l L
end
mutual
def Ct.nod : Ct → Nat → List (Nat × Ct)
  | .mk k f t n x d DA dl dc A c s, L => (L, .mk k f t n x d DA dl dc A c s) :: Ct.nods s (L + 1)
def Ct.nods : List Ct → Nat → List (Nat × Ct)
  | [], _ => []
  | t :: l, L => Ct.nod t L ++ Ct.nods l L
end
theorem Ex.nods_eq (l : List Ex) (L : Nat) : Ex.nods l L = l.flatMap (fun t => t.nod L) := by
  induction l with
  | nil => simp [Ex.nods]
  | cons t l ih => simp [Ex.nods, ih]
theorem Ct.nods_eq (l : List Ct) (L : Nat) : Ct.nods l L = l.flatMap (fun t => t.nod L) := by
  induction l with
  | nil => simp [Ct.nods]
  | cons t l ih => simp [Ct.nods, ih]
theorem Ex.nod_mk (k : Int) (r n : ByteArray) (d : Int) (A : Option Addr) (c : Nat) (s : List Ex) (L : Nat) : Ex.nod (.mk k r n d A c s) L = (L, .mk k r n d A c s) :: s.flatMap (fun t => t.nod (L + 1)) := by rw [Ex.nod, Ex.nods_eq]
theorem Ct.nod_mk (k : Int) (f t n : ByteArray) (x : Ex) (d : Int) (DA : Option Addr) (dl : List Int) (dc : Nat) (A : Option Addr) (c : Nat) (s : List Ct) (L : Nat) : Ct.nod (.mk k f t n x d DA dl dc A c s) L = (L, .mk k f t n x d DA dl dc A c s) :: s.flatMap (fun t => t.nod (L + 1)) := by rw [Ct.nod, Ct.nods_eq]
theorem flat_take {α β : Type} (f : α → List β) (l : List α) (i : Nat) (h : i < l.length) : (l.take (i + 1)).flatMap f = (l.take i).flatMap f ++ f l[i] := by
  rw [List.take_succ_eq_append_getElem h, List.flatMap_append]
  simp
theorem flat_prefix {α β : Type} (f : α → List β) (l : List α) (i : Nat) : (l.take i).flatMap f <+: l.flatMap f := by
  have h : l.flatMap f = (l.take i).flatMap f ++ (l.drop i).flatMap f := by rw [← List.flatMap_append, List.take_append_drop]
  rw [h]
  exact List.prefix_append _ _
theorem sum_flat {α β : Type} (f : α → List β) (l : List α) : (l.flatMap f).length = (l.map (fun t => (f t).length)).sum := by rw [List.length_flatMap]
theorem Ex.nod_len (t : Ex) : ∀ L, (t.nod L).length = t.siz := by
  induction t using Ex.ind with
  | h k r n d A c s ih =>
    intro L
    rw [Ex.nod_mk, List.length_cons, sum_flat, Ex.siz_mk]
    have : s.map (fun t => (t.nod (L + 1)).length) = s.map Ex.siz := List.map_congr_left fun t ht => ih t ht _
    rw [this]; omega
theorem Ct.nod_len (t : Ct) : ∀ L, (t.nod L).length = t.num := by
  induction t using Ct.ind with
  | h k f t n x d DA dl dc A c s ih =>
    intro L
    rw [Ct.nod_mk, List.length_cons, sum_flat, Ct.num_mk]
    have : s.map (fun t => (t.nod (L + 1)).length) = s.map Ct.num := List.map_congr_left fun t ht => ih t ht _
    rw [this]; omega
theorem Ex.nod_le (t : Ex) : ∀ L b, (∀ p ∈ t.nod L, p.1 ≤ b) ↔ L + t.dep ≤ b + 1 := by
  induction t using Ex.ind with
  | h k r n d A c s ih =>
    intro L b
    rw [Ex.nod_mk]
    have hp : 1 ≤ Ex.dep (.mk k r n d A c s) := Ex.dep_pos _
    constructor
    · intro h
      have h1 := h _ (List.mem_cons_self ..)
      obtain ⟨e, rfl⟩ : ∃ e, b = L + e := ⟨b - L, by have : L ≤ b := h1; omega⟩
      have := (Ex.dep_le k r n d A c s e).2 (fun t ht => by
        have := (ih t ht (L + 1) (L + e)).1 (fun p hp => h p (List.mem_cons_of_mem _ (List.mem_flatMap.2 ⟨t, ht, hp⟩)))
        omega)
      omega
    · intro h p hp
      obtain ⟨e, rfl⟩ : ∃ e, b = L + e := ⟨b - L, by omega⟩
      have h2 := (Ex.dep_le k r n d A c s e).1 (by omega)
      rcases List.mem_cons.1 hp with rfl | hp
      · show L ≤ L + e; omega
      · obtain ⟨t, ht, hp⟩ := List.mem_flatMap.1 hp
        exact (ih t ht (L + 1) (L + e)).2 (by have := h2 t ht; omega) p hp
def Ct.lv1 (p : Nat × Ct) : List Nat := p.1 :: (if p.2.x.bar then [] else (p.2.x.nod 1).map (fun q => p.1 + q.1))
def Ct.lev (T : Ct) (L : Nat) : List Nat := (T.nod L).flatMap Ct.lv1
theorem Ct.lv1_len (p : Nat × Ct) : (Ct.lv1 p).length = 1 + p.2.x.xsz := by
  unfold Ct.lv1 Ex.xsz
  split
  · rfl
  · rw [List.length_cons, List.length_map, Ex.nod_len]; omega
theorem Ct.lv1_le (p : Nat × Ct) (b : Nat) : (∀ l ∈ Ct.lv1 p, l ≤ b) ↔ p.1 + p.2.x.xdp ≤ b := by
  unfold Ct.lv1 Ex.xdp
  split
  · simp
  · constructor
    · intro h
      have h1 : p.1 ≤ b := h _ (List.mem_cons_self ..)
      obtain ⟨e, rfl⟩ : ∃ e, b = p.1 + e := ⟨b - p.1, by omega⟩
      have := (Ex.nod_le p.2.x 1 e).1 (fun q hq => by
        have := h (p.1 + q.1) (List.mem_cons_of_mem _ (List.mem_map.2 ⟨q, hq, rfl⟩))
        omega)
      omega
    · intro h l hl
      rcases List.mem_cons.1 hl with rfl | hl
      · omega
      · obtain ⟨q, hq, rfl⟩ := List.mem_map.1 hl
        obtain ⟨e, rfl⟩ : ∃ e, b = p.1 + e := ⟨b - p.1, by omega⟩
        have := (Ex.nod_le p.2.x 1 e).2 (by omega) q hq
        omega
theorem Ct.lev_mk (k : Int) (f t n : ByteArray) (x : Ex) (d : Int) (DA : Option Addr) (dl : List Int) (dc : Nat) (A : Option Addr) (c : Nat) (s : List Ct) (L : Nat) : Ct.lev (.mk k f t n x d DA dl dc A c s) L = Ct.lv1 (L, .mk k f t n x d DA dl dc A c s) ++ s.flatMap (fun t => t.lev (L + 1)) := by
  unfold Ct.lev
  rw [Ct.nod_mk, List.flatMap_cons, List.flatMap_assoc]
theorem Ct.lev_len (T : Ct) : ∀ L, (T.lev L).length = T.siz := by
  induction T using Ct.ind with
  | h k f t n x d DA dl dc A c s ih =>
    intro L
    rw [Ct.lev_mk, List.length_append, Ct.lv1_len, sum_flat, Ct.siz_mk]
    have : s.map (fun t => (t.lev (L + 1)).length) = s.map Ct.siz := List.map_congr_left fun t ht => ih t ht _
    rw [this]
    rfl
theorem Ct.lev_le (T : Ct) : ∀ L b, (∀ l ∈ T.lev L, l ≤ b) ↔ L + T.dep ≤ b + 1 := by
  induction T using Ct.ind with
  | h k f t n x d DA dl dc A c s ih =>
    intro L b
    rw [Ct.lev_mk]
    have hp : 1 ≤ Ct.dep (.mk k f t n x d DA dl dc A c s) := Ct.dep_pos _
    have hv := Ct.lv1_le (L, .mk k f t n x d DA dl dc A c s) b
    constructor
    · intro h
      have h1 : L + x.xdp ≤ b := hv.1 (fun l hl => h l (List.mem_append_left _ hl))
      obtain ⟨e, rfl⟩ : ∃ e, b = L + e := ⟨b - L, by omega⟩
      have := (Ct.dep_le k f t n x d DA dl dc A c s e).2 ⟨by omega, fun t ht => by
        have := (ih t ht (L + 1) (L + e)).1 (fun p hp => h p (List.mem_append_right _ (List.mem_flatMap.2 ⟨t, ht, hp⟩)))
        omega⟩
      omega
    · intro h l hl
      obtain ⟨e, rfl⟩ : ∃ e, b = L + e := ⟨b - L, by omega⟩
      have h2 := (Ct.dep_le k f t n x d DA dl dc A c s e).1 (by omega)
      rcases List.mem_append.1 hl with hl | hl
      · exact hv.2 (by show L + x.xdp ≤ L + e; omega) l hl
      · obtain ⟨t, ht, hl⟩ := List.mem_flatMap.1 hl
        exact (ih t ht (L + 1) (L + e)).2 (by have := h2.2 t ht; omega) l hl
theorem Ct.lev_max (T : Ct) : (T.lev 1).foldl max 0 = T.dep := by
  have h1 := (foldl_max_le (T.lev 1) 0 T.dep).2 ⟨by omega, (Ct.lev_le T 1 T.dep).2 (by omega)⟩
  have h2 := (foldl_max_le (T.lev 1) 0 ((T.lev 1).foldl max 0)).1 (Nat.le_refl _)
  have h3 := (Ct.lev_le T 1 _).1 h2.2
  omega
def Ct.many (T : Ct) : Bool := decide (500 < T.siz) || decide (60 < T.dep)
theorem Ct.many_iff (T : Ct) : T.many = false ↔ (T.lev 1).length ≤ 500 ∧ ∀ l ∈ T.lev 1, l ≤ 60 := by
  unfold Ct.many
  rw [Ct.lev_len, Ct.lev_le, Bool.or_eq_false_iff, decide_eq_false_iff_not, decide_eq_false_iff_not]
  omega
end Go.Proofs.YtalejbabhjlehaaGreatDoor
/- Layer 8, plain: how the nodes are counted: by the statements' guard, and by Check. -/
namespace Go.Proofs.YtalejbabhjlehaaGreatDoor
open Go Go.RowKit
mutual
def Ex.cnt : Ex → Int → Nat → Int × Bool
  | .mk _ _ _ _ _ _ s, L, D => if D = 0 then (1, false) else Ex.cnts s L (D - 1) 1
def Ex.cnts : List Ex → Int → Nat → Int → Int × Bool
  | [], _, _, n => (n, true)
  | t :: l, L, D, n => if n ≤ L then (if (Ex.cnt t (L - n) D).2 then Ex.cnts l L D (n + (Ex.cnt t (L - n) D).1) else (n, false)) else (n, true)
end
theorem Ex.cnt_mk (k : Int) (r n : ByteArray) (d : Int) (A : Option Addr) (c : Nat) (s : List Ex) (L : Int) (D : Nat) : Ex.cnt (.mk k r n d A c s) L D = if D = 0 then (1, false) else Ex.cnts s L (D - 1) 1 := by rw [Ex.cnt]
theorem Ex.cnts_cons (t : Ex) (l : List Ex) (L : Int) (D : Nat) (n : Int) : Ex.cnts (t :: l) L D n = if n ≤ L then (if (Ex.cnt t (L - n) D).2 then Ex.cnts l L D (n + (Ex.cnt t (L - n) D).1) else (n, false)) else (n, true) := by rw [Ex.cnts]
theorem Ex.cnts_nil (L : Int) (D : Nat) (n : Int) : Ex.cnts [] L D n = (n, true) := by rw [Ex.cnts]
theorem Ex.cnts_past (l : List Ex) (L : Int) (D : Nat) (n : Int) (h : L < n) : Ex.cnts l L D n = (n, true) := by
  cases l with
  | nil => rw [Ex.cnts_nil]
  | cons t l => rw [Ex.cnts_cons, if_neg (by omega)]
theorem Ex.cnts_facts (s : List Ex) (ih : ∀ t ∈ s, ∀ (L : Int) (D : Nat), 0 ≤ L → 1 ≤ (Ex.cnt t L D).1 ∧ (Ex.cnt t L D).1 ≤ L + 1 ∧ ((Ex.cnt t L D).2 = true → (Ex.cnt t L D).1 ≤ L → (Ex.cnt t L D).1 = t.siz ∧ t.dep ≤ D)) :
    ∀ (L : Int) (D : Nat) (n : Int), 1 ≤ n → n ≤ L + 1 → n ≤ (Ex.cnts s L D n).1 ∧ (Ex.cnts s L D n).1 ≤ L + 1 ∧ ((Ex.cnts s L D n).2 = true → (Ex.cnts s L D n).1 ≤ L → (Ex.cnts s L D n).1 = n + ((s.map Ex.siz).sum : Nat) ∧ ∀ t ∈ s, t.dep ≤ D) := by
  induction s with
  | nil =>
    intro L D n h0 h1
    rw [Ex.cnts_nil]
    exact ⟨Int.le_refl _, h1, fun _ _ => ⟨by simp, by simp⟩⟩
  | cons t l ih2 =>
    intro L D n h0 h1
    rw [Ex.cnts_cons]
    by_cases h : n ≤ L
    · rw [if_pos h]
      obtain ⟨a1, a2, a3⟩ := ih t (List.mem_cons_self ..) (L - n) D (by omega)
      cases hb : (Ex.cnt t (L - n) D).2
      · simp only [Bool.false_eq_true, if_false]
        exact ⟨Int.le_refl _, h1, fun h => by cases h⟩
      · simp only [if_true]
        obtain ⟨b1, b2, b3⟩ := ih2 (fun t ht => ih t (List.mem_cons_of_mem _ ht)) L D (n + (Ex.cnt t (L - n) D).1) (by omega) (by omega)
        refine ⟨by omega, b2, fun h2 h3 => ?_⟩
        obtain ⟨c1, c2⟩ := b3 h2 h3
        obtain ⟨e1, e2⟩ := a3 hb (by omega)
        refine ⟨by rw [c1, e1, List.map_cons, List.sum_cons]; omega, ?_⟩
        intro x hx
        rcases List.mem_cons.1 hx with rfl | g
        · exact e2
        · exact c2 x g
    · rw [if_neg h]
      exact ⟨Int.le_refl _, h1, fun _ h3 => absurd h3 h⟩
theorem Ex.cnt_facts (t : Ex) : ∀ (L : Int) (D : Nat), 0 ≤ L → 1 ≤ (Ex.cnt t L D).1 ∧ (Ex.cnt t L D).1 ≤ L + 1 ∧ ((Ex.cnt t L D).2 = true → (Ex.cnt t L D).1 ≤ L → (Ex.cnt t L D).1 = t.siz ∧ t.dep ≤ D) := by
  induction t using Ex.ind with
  | h k r n d A c s ih =>
    intro L D h0
    rw [Ex.cnt_mk]
    by_cases hD : D = 0
    · rw [if_pos hD]
      exact ⟨Int.le_refl _, by show (1 : Int) ≤ L + 1; omega, fun h => by cases h⟩
    · rw [if_neg hD]
      obtain ⟨a1, a2, a3⟩ := Ex.cnts_facts s ih L (D - 1) 1 (by omega) (by omega)
      refine ⟨a1, a2, fun h1 h2 => ?_⟩
      obtain ⟨b1, b2⟩ := a3 h1 h2
      refine ⟨by rw [b1, Ex.siz_mk]; omega, ?_⟩
      obtain ⟨D', rfl⟩ : ∃ D', D = D' + 1 := ⟨D - 1, by omega⟩
      exact (Ex.dep_le k r n d A c s D').2 b2
def Ex.grt (t : Ex) : Bool := !(t.cnt 600 100).2 || decide (600 < (t.cnt 600 100).1) || decide (3000 < (t.byt : Int))
theorem Ex.grt_not {t : Ex} (h : t.grt = false) : t.siz ≤ 600 ∧ t.dep ≤ 100 ∧ t.byt ≤ 12000 := by
  unfold Ex.grt at h
  simp only [Bool.or_eq_false_iff, Bool.not_eq_false', decide_eq_false_iff_not] at h
  obtain ⟨⟨h1, h2⟩, h3⟩ := h
  obtain ⟨-, -, a3⟩ := Ex.cnt_facts t 600 100 (by omega)
  obtain ⟨b1, b2⟩ := a3 h1 (by omega)
  omega
mutual
def Ex.fit : Ex → Nat → Int → Bool × Int
  | .mk _ _ _ _ _ _ s, D, R => if D = 0 ∨ R - 1 < 0 then (false, R - 1) else Ex.fitl s (D - 1) (R - 1)
def Ex.fitl : List Ex → Nat → Int → Bool × Int
  | [], _, R => (true, R)
  | t :: l, D, R => if (Ex.fit t D R).1 then Ex.fitl l D (Ex.fit t D R).2 else (false, (Ex.fit t D R).2)
end
theorem Ex.fit_mk (k : Int) (r n : ByteArray) (d : Int) (A : Option Addr) (c : Nat) (s : List Ex) (D : Nat) (R : Int) : Ex.fit (.mk k r n d A c s) D R = if D = 0 ∨ R - 1 < 0 then (false, R - 1) else Ex.fitl s (D - 1) (R - 1) := by rw [Ex.fit]
theorem Ex.fitl_cons (t : Ex) (l : List Ex) (D : Nat) (R : Int) : Ex.fitl (t :: l) D R = if (Ex.fit t D R).1 then Ex.fitl l D (Ex.fit t D R).2 else (false, (Ex.fit t D R).2) := by rw [Ex.fitl]
theorem Ex.fitl_nil (D : Nat) (R : Int) : Ex.fitl [] D R = (true, R) := by rw [Ex.fitl]
theorem Ex.fitl_facts (s : List Ex) (ih : ∀ t ∈ s, ∀ (D : Nat) (R : Int), 0 ≤ R → -1 ≤ (Ex.fit t D R).2 ∧ (Ex.fit t D R).2 ≤ R ∧ ((Ex.fit t D R).1 = true ↔ t.dep ≤ D ∧ (t.siz : Int) ≤ R) ∧ ((Ex.fit t D R).1 = true → (Ex.fit t D R).2 = R - t.siz)) :
    ∀ (D : Nat) (R : Int), 0 ≤ R → -1 ≤ (Ex.fitl s D R).2 ∧ (Ex.fitl s D R).2 ≤ R ∧ ((Ex.fitl s D R).1 = true ↔ (∀ t ∈ s, t.dep ≤ D) ∧ (((s.map Ex.siz).sum : Nat) : Int) ≤ R) ∧ ((Ex.fitl s D R).1 = true → (Ex.fitl s D R).2 = R - ((s.map Ex.siz).sum : Nat)) := by
  induction s with
  | nil =>
    intro D R h0
    rw [Ex.fitl_nil]
    exact ⟨by show (-1 : Int) ≤ R; omega, Int.le_refl _, by simp [h0], fun _ => by simp⟩
  | cons t l ih2 =>
    intro D R h0
    rw [Ex.fitl_cons]
    obtain ⟨a1, a2, a3, a4⟩ := ih t (List.mem_cons_self ..) D R h0
    cases hb : (Ex.fit t D R).1
    · simp only [Bool.false_eq_true, if_false]
      refine ⟨a1, a2, ?_, fun h => by cases h⟩
      constructor
      · intro h; cases h
      · rintro ⟨h1, h2⟩
        rw [List.map_cons, List.sum_cons] at h2
        have := a3.2 ⟨h1 t (List.mem_cons_self ..), by omega⟩
        rw [hb] at this; cases this
    · simp only [if_true]
      have e4 := a4 hb
      obtain ⟨e1, e2⟩ := a3.1 hb
      obtain ⟨b1, b2, b3, b4⟩ := ih2 (fun t ht => ih t (List.mem_cons_of_mem _ ht)) D (Ex.fit t D R).2 (by omega)
      refine ⟨b1, by omega, ?_, fun h => ?_⟩
      · rw [b3, List.map_cons, List.sum_cons]
        constructor
        · rintro ⟨h1, h2⟩
          refine ⟨?_, by omega⟩
          intro x hx
          rcases List.mem_cons.1 hx with rfl | g
          · exact e1
          · exact h1 x g
        · rintro ⟨h1, h2⟩
          exact ⟨fun x hx => h1 x (List.mem_cons_of_mem _ hx), by omega⟩
      · rw [b4 h, e4, List.map_cons, List.sum_cons]; omega
theorem Ex.fit_facts (t : Ex) : ∀ (D : Nat) (R : Int), 0 ≤ R → -1 ≤ (Ex.fit t D R).2 ∧ (Ex.fit t D R).2 ≤ R ∧ ((Ex.fit t D R).1 = true ↔ t.dep ≤ D ∧ (t.siz : Int) ≤ R) ∧ ((Ex.fit t D R).1 = true → (Ex.fit t D R).2 = R - t.siz) := by
  induction t using Ex.ind with
  | h k r n d A c s ih =>
    intro D R h0
    rw [Ex.fit_mk]
    have hp : 1 ≤ Ex.dep (.mk k r n d A c s) := Ex.dep_pos _
    by_cases hD : D = 0 ∨ R - 1 < 0
    · rw [if_pos hD]
      refine ⟨by show (-1 : Int) ≤ R - 1; omega, by show R - 1 ≤ R; omega, ?_, fun h => by cases h⟩
      constructor
      · intro h; cases h
      · rintro ⟨h1, h2⟩
        rw [Ex.siz_mk] at h2
        omega
    · rw [if_neg hD]
      obtain ⟨a1, a2, a3, a4⟩ := Ex.fitl_facts s ih (D - 1) (R - 1) (by omega)
      refine ⟨a1, by omega, ?_, fun h => by rw [a4 h, Ex.siz_mk]; omega⟩
      rw [a3, Ex.siz_mk]
      obtain ⟨D', rfl⟩ : ∃ D', D = D' + 1 := ⟨D - 1, by omega⟩
      rw [Ex.dep_le]
      constructor
      · rintro ⟨h1, h2⟩; exact ⟨h1, by omega⟩
      · rintro ⟨h1, h2⟩; exact ⟨h1, by omega⟩
def Ex.many (t : Ex) : Bool := decide (500 < t.siz) || decide (60 < t.dep)
theorem Ex.fit_many (t : Ex) : (Ex.fit t 60 500).1 = !t.many := by
  have := (Ex.fit_facts t 60 500 (by omega)).2.2.1
  unfold Ex.many
  cases h : (Ex.fit t 60 500).1
  · rw [h] at this
    symm
    rw [Bool.not_eq_false', Bool.or_eq_true, decide_eq_true_eq, decide_eq_true_eq]
    have h2 : ¬ (t.dep ≤ 60 ∧ (t.siz : Int) ≤ 500) := fun g => Bool.false_ne_true (this.2 g)
    omega
  · rw [h] at this
    have := this.1 rfl
    symm
    rw [Bool.not_eq_true', Bool.or_eq_false_iff, decide_eq_false_iff_not, decide_eq_false_iff_not]
    omega
end Go.Proofs.YtalejbabhjlehaaGreatDoor
/- Layer 9, plain: the statements' guard of contracts: how the nodes are counted, and their bytes. -/
namespace Go.Proofs.YtalejbabhjlehaaGreatDoor
open Go Go.RowKit
mutual
def Ct.cnt : Ct → Int → Nat → Int × Bool
  | .mk _ _ _ _ _ _ _ _ _ _ _ s, L, D => if D = 0 then (1, false) else Ct.cnts s L (D - 1) 1
def Ct.cnts : List Ct → Int → Nat → Int → Int × Bool
  | [], _, _, n => (n, true)
  | t :: l, L, D, n => if n ≤ L then (if (Ct.cnt t (L - n) D).2 then Ct.cnts l L D (n + (Ct.cnt t (L - n) D).1) else (n, false)) else (n, true)
end
theorem Ct.cnt_mk (k : Int) (f t n : ByteArray) (x : Ex) (d : Int) (DA : Option Addr) (dl : List Int) (dc : Nat) (A : Option Addr) (c : Nat) (s : List Ct) (L : Int) (D : Nat) : Ct.cnt (.mk k f t n x d DA dl dc A c s) L D = if D = 0 then (1, false) else Ct.cnts s L (D - 1) 1 := by rw [Ct.cnt]
theorem Ct.cnts_cons (t : Ct) (l : List Ct) (L : Int) (D : Nat) (n : Int) : Ct.cnts (t :: l) L D n = if n ≤ L then (if (Ct.cnt t (L - n) D).2 then Ct.cnts l L D (n + (Ct.cnt t (L - n) D).1) else (n, false)) else (n, true) := by rw [Ct.cnts]
theorem Ct.cnts_nil (L : Int) (D : Nat) (n : Int) : Ct.cnts [] L D n = (n, true) := by rw [Ct.cnts]
theorem Ct.cnts_past (l : List Ct) (L : Int) (D : Nat) (n : Int) (h : L < n) : Ct.cnts l L D n = (n, true) := by
  cases l with
  | nil => rw [Ct.cnts_nil]
  | cons t l => rw [Ct.cnts_cons, if_neg (by omega)]
theorem Ct.cnts_facts (s : List Ct) (ih : ∀ t ∈ s, ∀ (L : Int) (D : Nat), 0 ≤ L → 1 ≤ (Ct.cnt t L D).1 ∧ (Ct.cnt t L D).1 ≤ L + 1 ∧ ((Ct.cnt t L D).2 = true → (Ct.cnt t L D).1 ≤ L → (Ct.cnt t L D).1 = t.num ∧ t.hgt ≤ D)) :
    ∀ (L : Int) (D : Nat) (n : Int), 1 ≤ n → n ≤ L + 1 → n ≤ (Ct.cnts s L D n).1 ∧ (Ct.cnts s L D n).1 ≤ L + 1 ∧ ((Ct.cnts s L D n).2 = true → (Ct.cnts s L D n).1 ≤ L → (Ct.cnts s L D n).1 = n + ((s.map Ct.num).sum : Nat) ∧ ∀ t ∈ s, t.hgt ≤ D) := by
  induction s with
  | nil =>
    intro L D n h0 h1
    rw [Ct.cnts_nil]
    exact ⟨Int.le_refl _, h1, fun _ _ => ⟨by simp, by simp⟩⟩
  | cons t l ih2 =>
    intro L D n h0 h1
    rw [Ct.cnts_cons]
    by_cases h : n ≤ L
    · rw [if_pos h]
      obtain ⟨a1, a2, a3⟩ := ih t (List.mem_cons_self ..) (L - n) D (by omega)
      cases hb : (Ct.cnt t (L - n) D).2
      · simp only [Bool.false_eq_true, if_false]
        exact ⟨Int.le_refl _, h1, fun h => by cases h⟩
      · simp only [if_true]
        obtain ⟨b1, b2, b3⟩ := ih2 (fun t ht => ih t (List.mem_cons_of_mem _ ht)) L D (n + (Ct.cnt t (L - n) D).1) (by omega) (by omega)
        refine ⟨by omega, b2, fun h2 h3 => ?_⟩
        obtain ⟨c1, c2⟩ := b3 h2 h3
        obtain ⟨e1, e2⟩ := a3 hb (by omega)
        refine ⟨by rw [c1, e1, List.map_cons, List.sum_cons]; omega, ?_⟩
        intro x hx
        rcases List.mem_cons.1 hx with rfl | g
        · exact e2
        · exact c2 x g
    · rw [if_neg h]
      exact ⟨Int.le_refl _, h1, fun _ h3 => absurd h3 h⟩
theorem Ct.cnt_facts (T : Ct) : ∀ (L : Int) (D : Nat), 0 ≤ L → 1 ≤ (Ct.cnt T L D).1 ∧ (Ct.cnt T L D).1 ≤ L + 1 ∧ ((Ct.cnt T L D).2 = true → (Ct.cnt T L D).1 ≤ L → (Ct.cnt T L D).1 = T.num ∧ T.hgt ≤ D) := by
  induction T using Ct.ind with
  | h k f t n x d DA dl dc A c s ih =>
    intro L D h0
    rw [Ct.cnt_mk]
    by_cases hD : D = 0
    · rw [if_pos hD]
      exact ⟨Int.le_refl _, by show (1 : Int) ≤ L + 1; omega, fun h => by cases h⟩
    · rw [if_neg hD]
      obtain ⟨a1, a2, a3⟩ := Ct.cnts_facts s ih L (D - 1) 1 (by omega) (by omega)
      refine ⟨a1, a2, fun h1 h2 => ?_⟩
      obtain ⟨b1, b2⟩ := a3 h1 h2
      refine ⟨by rw [b1, Ct.num_mk]; omega, ?_⟩
      obtain ⟨D', rfl⟩ : ∃ D', D = D' + 1 := ⟨D - 1, by omega⟩
      exact (Ct.hgt_le k f t n x d DA dl dc A c s D').2 b2
def Ct.own (f t n : ByteArray) (x : Ex) (dl : List Int) : Int := (f.size : Int) + t.size + n.size + dl.length + 4 * x.siz
mutual
def Ct.wgt : Ct → Int
  | .mk _ f t n x _ _ dl _ _ _ s => if x.grt = true then 200000 else Ct.wgts s (Ct.own f t n x dl)
def Ct.wgts : List Ct → Int → Int
  | [], n => n
  | t :: l, n => if n < 100000 then Ct.wgts l (n + t.wgt) else n
end
theorem Ct.wgt_mk (k : Int) (f t n : ByteArray) (x : Ex) (d : Int) (DA : Option Addr) (dl : List Int) (dc : Nat) (A : Option Addr) (c : Nat) (s : List Ct) : Ct.wgt (.mk k f t n x d DA dl dc A c s) = if x.grt = true then 200000 else Ct.wgts s (Ct.own f t n x dl) := by rw [Ct.wgt]
theorem Ct.wgts_cons (t : Ct) (l : List Ct) (n : Int) : Ct.wgts (t :: l) n = if n < 100000 then Ct.wgts l (n + t.wgt) else n := by rw [Ct.wgts]
theorem Ct.wgts_nil (n : Int) : Ct.wgts [] n = n := by rw [Ct.wgts]
theorem Ct.wgts_past (l : List Ct) (n : Int) (h : 100000 ≤ n) : Ct.wgts l n = n := by
  cases l with
  | nil => rw [Ct.wgts_nil]
  | cons t l => rw [Ct.wgts_cons, if_neg (by omega)]
mutual
def Ct.all : Ct → List Ct
  | .mk k f t n x d DA dl dc A c s => .mk k f t n x d DA dl dc A c s :: Ct.alls s
def Ct.alls : List Ct → List Ct
  | [] => []
  | t :: l => Ct.all t ++ Ct.alls l
end
theorem Ct.alls_eq (l : List Ct) : Ct.alls l = l.flatMap Ct.all := by
  induction l with
  | nil => simp [Ct.alls]
  | cons t l ih => simp [Ct.alls, ih]
theorem Ct.all_mk (k : Int) (f t n : ByteArray) (x : Ex) (d : Int) (DA : Option Addr) (dl : List Int) (dc : Nat) (A : Option Addr) (c : Nat) (s : List Ct) : Ct.all (.mk k f t n x d DA dl dc A c s) = .mk k f t n x d DA dl dc A c s :: s.flatMap Ct.all := by rw [Ct.all, Ct.alls_eq]
theorem Ct.nod_snd (T : Ct) : ∀ L, (T.nod L).map Prod.snd = T.all := by
  induction T using Ct.ind with
  | h k f t n x d DA dl dc A c s ih =>
    intro L
    rw [Ct.nod_mk, Ct.all_mk, List.map_cons, List.map_flatMap]
    congr 1
    have : ∀ l : List Ct, (∀ u ∈ l, (u.nod (L + 1)).map Prod.snd = u.all) → l.flatMap (fun u => (u.nod (L + 1)).map Prod.snd) = l.flatMap Ct.all := by
      intro l h
      induction l with
      | nil => rfl
      | cons u l ih => rw [List.flatMap_cons, List.flatMap_cons, h u (List.mem_cons_self ..), ih (fun v hv => h v (List.mem_cons_of_mem _ hv))]
    exact this s (fun u hu => ih u hu _)
theorem Ct.all_sub {k : Int} {f t n : ByteArray} {x : Ex} {d : Int} {DA : Option Addr} {dl : List Int} {dc : Nat} {A : Option Addr} {c : Nat} {s : List Ct} {T U : Ct} (h : T ∈ s) (hU : U ∈ T.all) : U ∈ Ct.all (.mk k f t n x d DA dl dc A c s) := by
  rw [Ct.all_mk]
  exact List.mem_cons_of_mem _ (List.mem_flatMap.2 ⟨T, h, hU⟩)
def Ct.pw (T : Ct) : Int := Ct.fold (fun _ f t n x _ dl l => Ct.own f t n x dl + l.sum) T
theorem Ct.pw_mk (k : Int) (f t n : ByteArray) (x : Ex) (d : Int) (DA : Option Addr) (dl : List Int) (dc : Nat) (A : Option Addr) (c : Nat) (s : List Ct) : Ct.pw (.mk k f t n x d DA dl dc A c s) = Ct.own f t n x dl + (s.map Ct.pw).sum := by unfold Ct.pw; rw [Ct.fold_mk]
theorem Ct.own_nn (f t n : ByteArray) (x : Ex) (dl : List Int) : 0 ≤ Ct.own f t n x dl := by unfold Ct.own; omega
theorem Ct.wgts_facts (s : List Ct) (ih : ∀ t ∈ s, 0 ≤ t.wgt ∧ (t.wgt < 100000 → (∀ u ∈ t.all, u.x.grt = false) ∧ t.wgt = t.pw)) : ∀ n : Int, 0 ≤ n → n ≤ Ct.wgts s n ∧ (Ct.wgts s n < 100000 → (∀ t ∈ s, ∀ u ∈ t.all, u.x.grt = false) ∧ Ct.wgts s n = n + (s.map Ct.pw).sum) := by
  induction s with
  | nil => intro n h; rw [Ct.wgts_nil]; exact ⟨Int.le_refl _, fun _ => ⟨by simp, by simp⟩⟩
  | cons t l ih2 =>
    intro n h
    rw [Ct.wgts_cons]
    by_cases h1 : n < 100000
    · rw [if_pos h1]
      obtain ⟨a1, a2⟩ := ih t (List.mem_cons_self ..)
      obtain ⟨b1, b2⟩ := ih2 (fun u hu => ih u (List.mem_cons_of_mem _ hu)) (n + t.wgt) (by omega)
      refine ⟨by omega, fun h3 => ?_⟩
      obtain ⟨c1, c2⟩ := b2 h3
      obtain ⟨d1, d2⟩ := a2 (by omega)
      refine ⟨?_, by rw [c2, d2, List.map_cons, List.sum_cons]; omega⟩
      intro u hu
      rcases List.mem_cons.1 hu with rfl | hu
      · exact d1
      · exact c1 u hu
    · rw [if_neg h1]
      exact ⟨Int.le_refl _, fun h => absurd h h1⟩
theorem Ct.wgt_facts (T : Ct) : 0 ≤ T.wgt ∧ (T.wgt < 100000 → (∀ u ∈ T.all, u.x.grt = false) ∧ T.wgt = T.pw) := by
  induction T using Ct.ind with
  | h k f t n x d DA dl dc A c s ih =>
    rw [Ct.wgt_mk]
    cases hx : x.grt
    · rw [if_neg Bool.false_ne_true]
      obtain ⟨a1, a2⟩ := Ct.wgts_facts s ih _ (Ct.own_nn f t n x dl)
      refine ⟨Int.le_trans (Ct.own_nn f t n x dl) a1, fun h => ?_⟩
      obtain ⟨b1, b2⟩ := a2 h
      refine ⟨?_, by rw [Ct.pw_mk, b2]⟩
      intro u hu
      rw [Ct.all_mk] at hu
      rcases List.mem_cons.1 hu with rfl | hu
      · exact hx
      · obtain ⟨v, hv, hu⟩ := List.mem_flatMap.1 hu
        exact b1 v hv u hu
    · rw [if_pos rfl]
      exact ⟨by omega, fun h => by omega⟩
def Ct.grt (T : Ct) : Bool := !(T.cnt 600 100).2 || decide (600 < (T.cnt 600 100).1) || decide (12000 < T.wgt)
theorem Ct.xsum_le (T : Ct) : (∀ u ∈ T.all, u.x.grt = false) → (T.siz : Int) ≤ T.num + T.pw ∧ 0 ≤ T.pw := by
  induction T using Ct.ind with
  | h k f t n x d DA dl dc A c s ih =>
    intro h
    rw [Ct.siz_mk, Ct.num_mk, Ct.pw_mk]
    have hx : x.xsz ≤ x.siz := by unfold Ex.xsz; split <;> omega
    have hs : (((s.map Ct.siz).sum : Nat) : Int) ≤ ((s.map Ct.num).sum : Nat) + (s.map Ct.pw).sum ∧ 0 ≤ (s.map Ct.pw).sum := by
      have h2 : ∀ t ∈ s, (t.siz : Int) ≤ t.num + t.pw ∧ 0 ≤ t.pw := fun t ht => ih t ht (fun u hu => h u (Ct.all_sub ht hu))
      clear ih h hx
      induction s with
      | nil => simp
      | cons u l ih2 =>
        have a1 := h2 u (List.mem_cons_self ..)
        have a2 := ih2 (fun t ht => h2 t (List.mem_cons_of_mem _ ht))
        simp only [List.map_cons, List.sum_cons]
        omega
    have ho : (x.siz : Int) ≤ Ct.own f t n x dl := by unfold Ct.own; omega
    omega
theorem isum_nn {α : Type} (g : α → Int) (l : List α) (h : ∀ t ∈ l, 0 ≤ g t) : 0 ≤ (l.map g).sum := by
  induction l with
  | nil => simp
  | cons a l ih => have h1 := h a (List.mem_cons_self ..); have h2 := ih (fun t ht => h t (List.mem_cons_of_mem _ ht)); simp only [List.map_cons, List.sum_cons]; omega
theorem isum_mem {α : Type} (g : α → Int) (l : List α) (h : ∀ t ∈ l, 0 ≤ g t) {v : α} (hv : v ∈ l) : g v ≤ (l.map g).sum := by
  induction l with
  | nil => cases hv
  | cons a l ih =>
    have h1 := h a (List.mem_cons_self ..)
    have h2 := isum_nn g l (fun t ht => h t (List.mem_cons_of_mem _ ht))
    simp only [List.map_cons, List.sum_cons]
    rcases List.mem_cons.1 hv with rfl | hv
    · omega
    · have := ih (fun t ht => h t (List.mem_cons_of_mem _ ht)) hv; omega
theorem Ct.all_trans {T u w : Ct} (hu : u ∈ T.all) (hw : w ∈ u.all) : w ∈ T.all := by
  induction T using Ct.ind with
  | h k f t n x d DA dl dc A c s ih =>
    have h0 := hu
    rw [Ct.all_mk] at hu
    rcases List.mem_cons.1 hu with rfl | hu
    · exact hw
    · obtain ⟨y, hy, hu⟩ := List.mem_flatMap.1 hu
      exact Ct.all_sub hy (ih y hy hu)
theorem Ct.pw_subs (T : Ct) (h : ∀ u ∈ T.all, u.x.grt = false) : ∀ t ∈ T.sub, 0 ≤ t.pw := by
  obtain ⟨k, f, t, n, x, d, DA, dl, dc, A, c, s⟩ := T
  exact fun t ht => (Ct.xsum_le t (fun u hu => h u (Ct.all_sub ht hu))).2
theorem Ct.pw_mem (T : Ct) {u : Ct} (h : u ∈ T.all) : (∀ u ∈ T.all, u.x.grt = false) → u.pw ≤ T.pw := by
  induction T using Ct.ind with
  | h k f t n x d DA dl dc A c s ih =>
    intro hg
    rw [Ct.all_mk] at h
    rcases List.mem_cons.1 h with rfl | h
    · exact Int.le_refl _
    · obtain ⟨v, hv, h⟩ := List.mem_flatMap.1 h
      have h1 := ih v hv h (fun u hu => hg u (Ct.all_sub hv hu))
      have h2 : v.pw ≤ (s.map Ct.pw).sum := isum_mem Ct.pw s (Ct.pw_subs _ hg) hv
      rw [Ct.pw_mk]
      have := Ct.own_nn f t n x dl
      omega
theorem Ct.grt_not {T : Ct} (h : T.grt = false) : T.num ≤ 600 ∧ T.hgt ≤ 100 ∧ (∀ u ∈ T.all, u.x.grt = false) ∧ T.pw ≤ 12000 ∧ T.siz ≤ 12600 := by
  unfold Ct.grt at h
  simp only [Bool.or_eq_false_iff, Bool.not_eq_false', decide_eq_false_iff_not] at h
  obtain ⟨⟨h1, h2⟩, h3⟩ := h
  obtain ⟨-, -, a3⟩ := Ct.cnt_facts T 600 100 (by omega)
  obtain ⟨b1, b2⟩ := a3 h1 (by omega)
  obtain ⟨c1, c2⟩ := Ct.wgt_facts T
  obtain ⟨d1, d2⟩ := c2 (by omega)
  have e := Ct.xsum_le T d1
  exact ⟨by omega, b2, d1, by omega, by omega⟩
theorem Ct.grt_mem {T : Ct} (h : T.grt = false) {u : Ct} (hu : u ∈ T.all) : u.x.siz ≤ 600 ∧ u.x.dep ≤ 100 ∧ u.x.byt ≤ 12000 ∧ u.f.size + u.t.size + u.n.size + u.dl.length ≤ 12000 := by
  obtain ⟨-, -, h3, h4, -⟩ := Ct.grt_not h
  obtain ⟨a1, a2, a3⟩ := Ex.grt_not (h3 u hu)
  have h5 := Ct.pw_mem T hu h3
  have h6 := Ct.pw_subs u (fun w hw => h3 w (Ct.all_trans hu hw))
  obtain ⟨k, f, t, n, x, d, DA, dl, dc, A, c, s⟩ := u
  have h6 : 0 ≤ (s.map Ct.pw).sum := isum_nn Ct.pw s h6
  rw [Ct.pw_mk] at h5
  refine ⟨a1, a2, a3, ?_⟩
  show f.size + t.size + n.size + dl.length ≤ 12000
  have h9 : Ct.own f t n x dl = (f.size : Int) + t.size + n.size + dl.length + 4 * x.siz := rfl
  omega
end Go.Proofs.YtalejbabhjlehaaGreatDoor

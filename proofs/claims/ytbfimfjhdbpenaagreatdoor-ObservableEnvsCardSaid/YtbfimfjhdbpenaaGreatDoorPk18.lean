/- Joined: ObH, ObM, ObN, ObO, ObI, ObJ, ObW, ObW2. -/
import Derived.Test.YtbfimfjhdbpenaaGreatDoorPk4
import Derived.Test.YtbfimfjhdbpenaaGreatDoorPk5
import Derived.Test.YtbfimfjhdbpenaaGreatDoorPk17
import Derived.Deep.RegionHeld3
/- Layer 8: sorts: plain; a region of calls that leave what is old; sortOf, hasFields, partsOf. -/
namespace Go.Proofs.YtbfimfjhdbpenaaGreatDoor
open Go Go.RowKit
def Bel (w : World) : Type := { w' : World // Below w.heap.size w w' }
instance (w : World) : Nonempty (Bel w) := ⟨⟨w, Below.refl _ _⟩⟩
theorem wp_region_bel {P : Program} {id : Nat} {Q : Exit → Act → World → Prop} {a : Act} {w : World} {l : List Oper} (hm : P.follows .mixedOrders = true) (hB : Region.lexB .any l.toArray = true)
    (h : wpQuiet P l.toArray (fun w' => ∃ z : Bel w, w' = z.1) (fun a' => ∀ w', (∃ z : Bel w, w' = z.1) → Q .normal a' w') l a) : (Code.region id l.toArray true).wp P Q a w :=
  wp_region_quiet (C := fun w' => ∃ z : Bel w, w' = z.1) hm hB ⟨⟨w.drew, Below.drew (Below.refl _ _)⟩, rfl⟩ (by simpa using h)
theorem Bel.cell {w : World} {p : Addr} {v : Value} (h : w.cell? p = some v) (z : Bel w) : z.1.cell? p = some v := cellO z.2 h
theorem Bel.calls {P : Program} {f : FuncId} {args : Array Value} {w : World} {v : Value} (h : ∀ W, Below w.heap.size w W → Calls P f args W fun e w' => e = .returned v ∧ Below W.heap.size W w') (z : Bel w) :
    Calls P f args z.1 fun e w'' => e = .returned v ∧ ∃ z' : Bel w, w'' = z'.1 :=
  (h z.1 z.2).mono fun _ w' ⟨he, hb⟩ => ⟨he, ⟨w', btO z.2 hb⟩, rfl⟩
end Go.Proofs.YtbfimfjhdbpenaaGreatDoor
/- Layer 8, plain: what is known: its order; a thing put in its place. -/
namespace Go.Proofs.YtbfimfjhdbpenaaGreatDoor
open Go Go.RowKit
abbrev bl (x y : List UInt8) : Bool := Op.bytesLess x y
theorem bl_cc (a b : UInt8) (x y : List UInt8) : bl (a :: x) (b :: y) = true ↔ a.toNat < b.toNat ∨ (a = b ∧ bl x y = true) := by
  unfold bl
  rw [Op.bytesLess, Bool.or_eq_true, Bool.and_eq_true, decide_eq_true_eq, beq_iff_eq, UInt8.lt_iff_toNat_lt]
theorem bl_nil (x : List UInt8) : bl x [] = false := by cases x <;> rfl
theorem bl_irrefl (x : List UInt8) : bl x x = false := by
  induction x with
  | nil => rfl
  | cons a x ih =>
    rw [Bool.eq_false_iff]
    intro h
    rcases (bl_cc a a x x).1 h with h | ⟨-, h⟩
    · omega
    · rw [ih] at h; cases h
theorem bl_trans {x y z : List UInt8} (h1 : bl x y = true) (h2 : bl y z = true) : bl x z = true := by
  induction x generalizing y z with
  | nil =>
    cases y with
    | nil => rw [bl_nil] at h1; cases h1
    | cons b y =>
      cases z with
      | nil => rw [bl_nil] at h2; cases h2
      | cons c z => rfl
  | cons a x ih =>
    cases y with
    | nil => rw [bl_nil] at h1; cases h1
    | cons b y =>
      cases z with
      | nil => rw [bl_nil] at h2; cases h2
      | cons c z =>
        rw [bl_cc] at h1 h2 ⊢
        rcases h1 with h1 | ⟨rfl, h1⟩
        · rcases h2 with h2 | ⟨rfl, h2⟩
          · exact .inl (by omega)
          · exact .inl h1
        · rcases h2 with h2 | ⟨rfl, h2⟩
          · exact .inl h2
          · exact .inr ⟨rfl, ih h1 h2⟩
theorem bl_total {x y : List UInt8} (h1 : bl x y = false) (h2 : bl y x = false) : x = y := by
  induction x generalizing y with
  | nil =>
    cases y with
    | nil => rfl
    | cons b y => cases h1
  | cons a x ih =>
    cases y with
    | nil => cases h2
    | cons b y =>
      have g1 : ¬ (a.toNat < b.toNat ∨ (a = b ∧ bl x y = true)) := fun h => by rw [(bl_cc a b x y).2 h] at h1; cases h1
      have g2 : ¬ (b.toNat < a.toNat ∨ (b = a ∧ bl y x = true)) := fun h => by rw [(bl_cc b a y x).2 h] at h2; cases h2
      have e : a = b := UInt8.toNat_inj.1 (by omega)
      subst e
      rw [ih (y := y) (by rw [Bool.eq_false_iff]; exact fun h => g1 (.inr ⟨rfl, h⟩)) (by rw [Bool.eq_false_iff]; exact fun h => g2 (.inr ⟨rfl, h⟩))]
abbrev Key := List UInt8 × List UInt8 × Int
def ltK (a b : Key) : Bool := bl a.1 b.1 || (a.1 == b.1 && (bl a.2.1 b.2.1 || (a.2.1 == b.2.1 && decide (a.2.2 < b.2.2))))
theorem ltK_iff (a b : Key) : ltK a b = true ↔ bl a.1 b.1 = true ∨ (a.1 = b.1 ∧ (bl a.2.1 b.2.1 = true ∨ (a.2.1 = b.2.1 ∧ a.2.2 < b.2.2))) := by
  unfold ltK
  simp only [Bool.or_eq_true, Bool.and_eq_true, beq_iff_eq, decide_eq_true_eq]
theorem ltK_irrefl (a : Key) : ltK a a = false := by
  rw [Bool.eq_false_iff]
  intro h
  rcases (ltK_iff a a).1 h with h | ⟨-, h | ⟨-, h⟩⟩
  · rw [bl_irrefl] at h; cases h
  · rw [bl_irrefl] at h; cases h
  · omega
theorem ltK_trans {a b c : Key} (h1 : ltK a b = true) (h2 : ltK b c = true) : ltK a c = true := by
  rw [ltK_iff] at h1 h2 ⊢
  rcases h1 with h1 | ⟨e1, h1⟩
  · rcases h2 with h2 | ⟨e2, -⟩
    · exact .inl (bl_trans h1 h2)
    · rw [← e2]; exact .inl h1
  · rw [e1]
    rcases h2 with h2 | ⟨e2, h2⟩
    · exact .inl h2
    · refine .inr ⟨e2, ?_⟩
      rcases h1 with h1 | ⟨e3, h1⟩
      · rcases h2 with h2 | ⟨e4, -⟩
        · exact .inl (bl_trans h1 h2)
        · rw [← e4]; exact .inl h1
      · rw [e3]
        rcases h2 with h2 | ⟨e4, h2⟩
        · exact .inl h2
        · exact .inr ⟨e4, by omega⟩
theorem ltK_total {a b : Key} (h1 : ltK a b = false) (h2 : ltK b a = false) : a = b := by
  have g1 : ¬ _ := fun h => by rw [(ltK_iff a b).2 h] at h1; cases h1
  have g2 : ¬ _ := fun h => by rw [(ltK_iff b a).2 h] at h2; cases h2
  obtain ⟨a1, a2, a3⟩ := a
  obtain ⟨b1, b2, b3⟩ := b
  simp only at g1 g2
  have e1 : a1 = b1 := bl_total (by rw [Bool.eq_false_iff]; exact fun h => g1 (.inl h)) (by rw [Bool.eq_false_iff]; exact fun h => g2 (.inl h))
  subst e1
  have e2 : a2 = b2 := bl_total (by rw [Bool.eq_false_iff]; exact fun h => g1 (.inr ⟨rfl, .inl h⟩)) (by rw [Bool.eq_false_iff]; exact fun h => g2 (.inr ⟨rfl, .inl h⟩))
  subst e2
  have e3 : ¬ a3 < b3 := fun h => g1 (.inr ⟨rfl, .inr ⟨rfl, h⟩⟩)
  have e4 : ¬ b3 < a3 := fun h => g2 (.inr ⟨rfl, .inr ⟨rfl, h⟩⟩)
  rw [show a3 = b3 by omega]
theorem ltK_asymm {a b : Key} (h : ltK a b = true) : ltK b a = false := by
  rw [Bool.eq_false_iff]
  intro g
  have := ltK_trans h g
  rw [ltK_irrefl] at this; cases this
def cmS (x y : List UInt8) : Int := if bl x y then -1 else if bl y x then 1 else 0
def cmI (x y : Int) : Int := if x < y then -1 else if y < x then 1 else 0
def cmK (a b : Key) : Int := if ltK a b then -1 else if ltK b a then 1 else 0
def orI (x y : Int) : Int := if x = 0 then y else x
theorem cmS_cases (x y : List UInt8) : (bl x y = true ∧ cmS x y = -1) ∨ (x = y ∧ cmS x y = 0) ∨ (bl y x = true ∧ cmS x y = 1) := by
  unfold cmS
  cases h1 : bl x y
  · cases h2 : bl y x
    · exact .inr (.inl ⟨bl_total h1 h2, by simp⟩)
    · exact .inr (.inr ⟨rfl, by simp⟩)
  · exact .inl ⟨rfl, by simp⟩
theorem cmI_cases (x y : Int) : (x < y ∧ cmI x y = -1) ∨ (x = y ∧ cmI x y = 0) ∨ (y < x ∧ cmI x y = 1) := by
  unfold cmI
  by_cases h1 : x < y
  · exact .inl ⟨h1, if_pos h1⟩
  · by_cases h2 : y < x
    · exact .inr (.inr ⟨h2, by rw [if_neg h1, if_pos h2]⟩)
    · exact .inr (.inl ⟨by omega, by rw [if_neg h1, if_neg h2]⟩)
theorem cmK_lt {a b : Key} (h : ltK a b = true) : cmK a b = -1 := by unfold cmK; rw [h]; rfl
theorem cmK_gt {a b : Key} (h : ltK b a = true) : cmK a b = 1 := by unfold cmK; rw [ltK_asymm h, h]; rfl
theorem cmK_eq (a : Key) : cmK a a = 0 := by unfold cmK; rw [ltK_irrefl]; rfl
theorem cmK_neg (a b : Key) : cmK a b < 0 ↔ ltK a b = true := by
  unfold cmK
  cases h1 : ltK a b
  · cases h2 : ltK b a <;> simp
  · simp
theorem cmK_zero (a b : Key) : cmK a b = 0 ↔ a = b := by
  constructor
  · intro h
    unfold cmK at h
    cases h1 : ltK a b
    · cases h2 : ltK b a
      · exact ltK_total h1 h2
      · rw [h1, h2] at h; simp at h
    · rw [h1] at h; simp at h
  · rintro rfl; exact cmK_eq a
theorem cmK_fix (n n' : List UInt8) (d d' : Int) : orI (cmS n n') (cmI d d') = cmK ([], n, d) ([], n', d') := by
  rcases cmS_cases n n' with ⟨h, e⟩ | ⟨rfl, e⟩ | ⟨h, e⟩
  · rw [e, cmK_lt (a := ([], n, d)) (b := ([], n', d')) ((ltK_iff _ _).2 (.inr ⟨rfl, .inl h⟩))]; rfl
  · rw [e]
    rcases cmI_cases d d' with ⟨h, e2⟩ | ⟨rfl, e2⟩ | ⟨h, e2⟩
    · rw [e2, cmK_lt (a := ([], n, d)) (b := ([], n, d')) ((ltK_iff _ _).2 (.inr ⟨rfl, .inr ⟨rfl, h⟩⟩))]; rfl
    · rw [e2, cmK_eq]; rfl
    · rw [e2, cmK_gt (a := ([], n, d)) (b := ([], n, d')) ((ltK_iff _ _).2 (.inr ⟨rfl, .inr ⟨rfl, h⟩⟩))]; rfl
  · rw [e, cmK_gt (a := ([], n, d)) (b := ([], n', d')) ((ltK_iff _ _).2 (.inr ⟨rfl, .inl h⟩))]; rfl
theorem cmK_cho (p p' n n' : List UInt8) (d d' : Int) : orI (cmS p p') (orI (cmS n n') (cmI d d')) = cmK (p, n, d) (p', n', d') := by
  rcases cmS_cases p p' with ⟨h, e⟩ | ⟨rfl, e⟩ | ⟨h, e⟩
  · rw [e, cmK_lt (a := (p, n, d)) (b := (p', n', d')) ((ltK_iff _ _).2 (.inl h))]; rfl
  · rw [e]
    rcases cmS_cases n n' with ⟨h, e3⟩ | ⟨rfl, e3⟩ | ⟨h, e3⟩
    · rw [e3, cmK_lt (a := (p, n, d)) (b := (p, n', d')) ((ltK_iff _ _).2 (.inr ⟨rfl, .inl h⟩))]; rfl
    · rw [e3]
      rcases cmI_cases d d' with ⟨h, e2⟩ | ⟨rfl, e2⟩ | ⟨h, e2⟩
      · rw [e2, cmK_lt (a := (p, n, d)) (b := (p, n, d')) ((ltK_iff _ _).2 (.inr ⟨rfl, .inr ⟨rfl, h⟩⟩))]; rfl
      · rw [e2, cmK_eq]; rfl
      · rw [e2, cmK_gt (a := (p, n, d)) (b := (p, n, d')) ((ltK_iff _ _).2 (.inr ⟨rfl, .inr ⟨rfl, h⟩⟩))]; rfl
    · rw [e3, cmK_gt (a := (p, n, d)) (b := (p, n', d')) ((ltK_iff _ _).2 (.inr ⟨rfl, .inl h⟩))]; rfl
  · rw [e, cmK_gt (a := (p, n, d)) (b := (p', n', d')) ((ltK_iff _ _).2 (.inl h))]; rfl
abbrev Fx := ByteArray × Int × ByteArray
abbrev Cx := ByteArray × ByteArray × Int × Bool
def Fx.key (f : Fx) : Key := ([], f.1.data.toList, f.2.1)
def Cx.key (c : Cx) : Key := (c.1.data.toList, c.2.1.data.toList, c.2.2.1)
def Fx.ok (f : Fx) : Bool := nameO f.1.data.toList && dayO f.2.1 && decide (chkR f.2.2.data.toList = 0)
def Cx.ok (c : Cx) : Bool := nameO c.1.data.toList && nameO c.2.1.data.toList && dayO c.2.2.1
def okJ {α : Type} (key : α → Key) (ok : α → Bool) (l : List α) (j : Nat) : Bool :=
  match l[j]? with
  | none => true
  | some x => ok x && (match j with | 0 => true | i + 1 => match l[i]? with | none => true | some y => ltK (key y) (key x))
def ordB {α : Type} (key : α → Key) (ok : α → Bool) (l : List α) : Bool := (List.range l.length).all (okJ key ok l)
theorem ordB_iff {α : Type} (key : α → Key) (ok : α → Bool) (l : List α) : ordB key ok l = true ↔ ∀ j, j < l.length → okJ key ok l j = true := by
  unfold ordB
  rw [List.all_eq_true]
  simp only [List.mem_range]
theorem okJ_zero {α : Type} (key : α → Key) (ok : α → Bool) (l : List α) (h : 0 < l.length) : okJ key ok l 0 = ok l[0] := by
  unfold okJ
  rw [List.getElem?_eq_getElem h]
  simp
theorem okJ_succ {α : Type} (key : α → Key) (ok : α → Bool) (l : List α) (j : Nat) (h : j + 1 < l.length) : okJ key ok l (j + 1) = (ok l[j + 1] && ltK (key l[j]) (key l[j + 1])) := by
  unfold okJ
  simp only [List.getElem?_eq_getElem h, List.getElem?_eq_getElem (show j < l.length by omega)]
def Inc {α : Type} (key : α → Key) (l : List α) : Prop := ∀ i j (hi : i < j) (hj : j < l.length), ltK (key (l[i]'(by omega))) (key l[j]) = true
theorem inc_of {α : Type} {key : α → Key} {ok : α → Bool} {l : List α} (h : ordB key ok l = true) : Inc key l ∧ ∀ j (hj : j < l.length), ok l[j] = true := by
  rw [ordB_iff] at h
  have h1 : ∀ j (hj : j + 1 < l.length), ltK (key l[j]) (key l[j + 1]) = true := fun j hj => by
    have := h (j + 1) hj
    rw [okJ_succ key ok l j hj, Bool.and_eq_true] at this
    exact this.2
  constructor
  · intro i j hi hj
    induction j with
    | zero => omega
    | succ j ih =>
      rcases Nat.lt_or_ge i j with g | g
      · exact ltK_trans (ih g (by omega)) (h1 j hj)
      · obtain rfl : i = j := by omega
        exact h1 i hj
  · intro j hj
    have := h j hj
    cases j with
    | zero => rwa [okJ_zero key ok l hj] at this
    | succ j =>
      rw [okJ_succ key ok l j hj, Bool.and_eq_true] at this
      exact this.1
end Go.Proofs.YtbfimfjhdbpenaaGreatDoor
/- Layer 8: what is known, in memory; the statements' guard of it. -/
namespace Go.Proofs.YtbfimfjhdbpenaaGreatDoor
open Go Go.RowKit Go.BigFrame
theorem below_dnO {B : Nat} {a w : World} (h : Below B a w) (n : Nat) : Below B a (w.drewN n) := ⟨h.os, h.tape, h.output, h.size, h.block⟩
def fxC (f : Fx) : List Value := [.string f.1, .int .i64 f.2.1, .string f.2.2]
def cxC (c : Cx) : List Value := [.string c.1, .string c.2.1, .int .i64 c.2.2.1, .bool c.2.2.2]
def RowsR {α : Type} (w : World) (A : Option Addr) (k : Nat) (enc : α → List Value) (l : List α) : Prop := ∀ j (h : j < l.length), RowC w A k j (enc l[j])
theorem RowsR.below {α : Type} {w w' : World} {A : Option Addr} {k : Nat} {enc : α → List Value} {l : List α} (h : RowsR w A k enc l) (hb : Below w.heap.size w w') : RowsR w' A k enc l := fun j hj => (h j hj).below hb
theorem RowsR.nil {α : Type} {w : World} {A : Option Addr} {k : Nat} {enc : α → List Value} : RowsR w A k enc ([] : List α) := fun j hj => by simp at hj
theorem RowsR.fx {w : World} {A : Option Addr} {l : List Fx} (h : RowsR w A 3 fxC l) {j : Nat} (hj : j < l.length) : ∃ b o, A = some ⟨b, o, none⟩ ∧ b < w.heap.size ∧
    w.cell? ⟨b, o + j * 3, none⟩ = some (.string l[j].1) ∧ w.cell? ⟨b, o + j * 3 + 1, none⟩ = some (.int .i64 l[j].2.1) ∧ w.cell? ⟨b, o + j * 3 + 2, none⟩ = some (.string l[j].2.2) := by
  obtain ⟨b, o, h1, h2, h3⟩ := h j hj
  exact ⟨b, o, h1, h2, h3 0 _ rfl, h3 1 _ rfl, h3 2 _ rfl⟩
theorem RowsR.cx {w : World} {A : Option Addr} {l : List Cx} (h : RowsR w A 4 cxC l) {j : Nat} (hj : j < l.length) : ∃ b o, A = some ⟨b, o, none⟩ ∧ b < w.heap.size ∧
    w.cell? ⟨b, o + j * 4, none⟩ = some (.string l[j].1) ∧ w.cell? ⟨b, o + j * 4 + 1, none⟩ = some (.string l[j].2.1) ∧ w.cell? ⟨b, o + j * 4 + 2, none⟩ = some (.int .i64 l[j].2.2.1) ∧ w.cell? ⟨b, o + j * 4 + 3, none⟩ = some (.bool l[j].2.2.2) := by
  obtain ⟨b, o, h1, h2, h3⟩ := h j hj
  exact ⟨b, o, h1, h2, h3 0 _ rfl, h3 1 _ rfl, h3 2 _ rfl, h3 3 _ rfl⟩
structure Ev where
  fA : Option Addr
  fs : List Fx
  fc : Nat
  cA : Option Addr
  cs : List Cx
  cc : Nat
abbrev Ev.val (e : Ev) : Value := .agg #[.slice e.fA e.fs.length e.fc, .slice e.cA e.cs.length e.cc]
structure Ev.In (w : World) (e : Ev) : Prop where
  f : RowsR w e.fA 3 fxC e.fs
  c : RowsR w e.cA 4 cxC e.cs
  fl : e.fs.length ≤ 140737488351232
  cl : e.cs.length ≤ 140737488351232
  fb : ∀ f ∈ e.fs, f.1.size ≤ 140737488351232 ∧ f.2.2.size ≤ 140737488351232
  cb : ∀ c ∈ e.cs, c.1.size ≤ 140737488351232 ∧ c.2.1.size ≤ 140737488351232
theorem Ev.In.below {w w' : World} {e : Ev} (h : e.In w) (hb : Below w.heap.size w w') : e.In w' := ⟨h.f.below hb, h.c.below hb, h.fl, h.cl, h.fb, h.cb⟩
structure Ev.Box (w : World) (b : Nat) (e : Ev) : Prop where
  c0 : w.cell? ⟨b, 0, none⟩ = some (.slice e.fA e.fs.length e.fc)
  c1 : w.cell? ⟨b, 1, none⟩ = some (.slice e.cA e.cs.length e.cc)
theorem Ev.Box.below {w w' : World} {b : Nat} {e : Ev} (h : Ev.Box w b e) (hb : Below w.heap.size w w') : Ev.Box w' b e := ⟨cellO hb h.c0, cellO hb h.c1⟩
theorem Ev.Box.new (w : World) (e : Ev) (ty : TypeId) : Ev.Box (w.alloc (.cells #[.slice e.fA e.fs.length e.fc, .slice e.cA e.cs.length e.cc] ty)) w.heap.size e := by
  refine ⟨?_, ?_⟩
  all_goals (rw [World.cell?_alloc_at _ _ _ _ rfl]; rfl)
def fxN (f : Fx) : Nat := f.1.size + f.2.2.size
def cxN (c : Cx) : Nat := c.1.size + c.2.1.size
def Ev.grt (e : Ev) : Bool := decide (1100 < e.fs.length) || decide (1100 < e.cs.length) || decide (20000 < (e.fs.map fxN).sum + (e.cs.map cxN).sum)
theorem Ev.grt_not {e : Ev} (h : e.grt = false) : e.fs.length ≤ 1100 ∧ e.cs.length ≤ 1100 ∧ (∀ f ∈ e.fs, f.1.size ≤ 20000 ∧ f.2.2.size ≤ 20000) ∧ (∀ c ∈ e.cs, c.1.size ≤ 20000 ∧ c.2.1.size ≤ 20000) := by
  unfold Ev.grt at h
  simp only [Bool.or_eq_false_iff, decide_eq_false_iff_not] at h
  obtain ⟨⟨h1, h2⟩, h3⟩ := h
  refine ⟨by omega, by omega, fun f hf => ?_, fun c hc => ?_⟩
  · have := sum_mem fxN e.fs hf; unfold fxN at this h3; omega
  · have := sum_mem cxN e.cs hc; unfold cxN at this h3; omega
theorem sum_bd {α : Type} (f : α → Nat) (B : Nat) (l : List α) (h : ∀ a ∈ l, f a ≤ B) : (l.map f).sum ≤ l.length * B := by
  induction l with
  | nil => simp
  | cons a l ih =>
    have h1 := h a (List.mem_cons_self ..)
    have h2 := ih (fun b hb => h b (List.mem_cons_of_mem _ hb))
    rw [List.map_cons, List.sum_cons, List.length_cons, Nat.add_mul]
    omega
set_option maxRecDepth 100000 in
set_option maxHeartbeats 3200000 in
theorem greatEnv_any (E : Ev) (w : World) (hin : E.In w) : Calls Tryz.prog 24 #[E.val] w (BoolRO E.grt w) := by
  have mixed : Tryz.prog.follows Departure.mixedOrders = true := by kernel_rfl
  obtain ⟨fA, fs, fc, cA, cs, cc⟩ := E
  have HB1 := belO w (.cells #[.slice fA fs.length fc, .slice cA cs.length cc] 38)
  have hC : Ev.Box (w.alloc (.cells #[.slice fA fs.length fc, .slice cA cs.length cc] 38)) w.heap.size ⟨fA, fs, fc, cA, cs, cc⟩ := Ev.Box.new w ⟨fA, fs, fc, cA, cs, cc⟩ 38
  have hI1 := hin.below HB1
  obtain ⟨w1, hw1⟩ : ∃ w1, w.alloc (.cells #[.slice fA fs.length fc, .slice cA cs.length cc] 38) = w1 := ⟨_, rfl⟩
  rw [hw1] at HB1 hC hI1
  have HB := Lib.hid HB1
  have HI := Lib.hid hI1
  have HC := Lib.hid hC
  have hfl : fs.length ≤ 140737488351232 := hin.fl
  have hcl : cs.length ≤ 140737488351232 := hin.cl
  have HFb : Hid (∀ f ∈ fs, f.1.size ≤ 140737488351232 ∧ f.2.2.size ≤ 140737488351232) := hin.fb
  have HCb : Hid (∀ c ∈ cs, c.1.size ≤ 140737488351232 ∧ c.2.1.size ≤ 140737488351232) := hin.cb
  have c0 : w1.cell? ⟨w.heap.size, 0, none⟩ = some (.slice fA fs.length fc) := hC.c0
  have c1 : w1.cell? ⟨w.heap.size, 1, none⟩ = some (.slice cA cs.length cc) := hC.c1
  show Calls Tryz.prog 24 #[.agg #[.slice fA fs.length fc, .slice cA cs.length cc]] w _
  have hg : Ev.grt ⟨fA, fs, fc, cA, cs, cc⟩ = (decide (1100 < fs.length) || decide (1100 < cs.length) || decide (20000 < (fs.map fxN).sum + (cs.map cxN).sum)) := rfl
  rw [hg]
  clear hin HB1 hI1 hC hg
  by_cases h1 : 1100 < (fs.length : Int)
  · rw [show (decide (1100 < fs.length) || decide (1100 < cs.length) || decide (20000 < (fs.map fxN).sum + (cs.map cxN).sum)) = true by rw [decide_eq_true (show 1100 < fs.length by omega)]; rfl]
    go_enter Tryz.func24, Tryz.ntmps24
    go_wp2_with (fail)
    go_ret
    exact ⟨rfl, HB.out⟩
  · by_cases h2 : 1100 < (cs.length : Int)
    · rw [show (decide (1100 < fs.length) || decide (1100 < cs.length) || decide (20000 < (fs.map fxN).sum + (cs.map cxN).sum)) = true by rw [decide_eq_true (show 1100 < cs.length by omega), Bool.or_true]; rfl]
      go_enter Tryz.func24, Tryz.ntmps24
      go_wp2_with (fail)
      go_ret
      exact ⟨rfl, HB.out⟩
    · rw [show (decide (1100 < fs.length) || decide (1100 < cs.length) || decide (20000 < (fs.map fxN).sum + (cs.map cxN).sum)) = decide (20000 < (((fs.map fxN).sum + (cs.map cxN).sum : Nat) : Int)) by
        rw [decide_eq_false (show ¬ 1100 < fs.length by omega), decide_eq_false (show ¬ 1100 < cs.length by omega)]
        simp only [Bool.false_or]
        by_cases g : 20000 < (fs.map fxN).sum + (cs.map cxN).sum
        · rw [decide_eq_true g, decide_eq_true (show 20000 < (((fs.map fxN).sum + (cs.map cxN).sum : Nat) : Int) by omega)]
        · rw [decide_eq_false g, decide_eq_false (show ¬ 20000 < (((fs.map fxN).sum + (cs.map cxN).sum : Nat) : Int) by omega)]]
      obtain ⟨SF, hSF⟩ : ∃ n, (fs.map fxN).sum = n := ⟨_, rfl⟩
      obtain ⟨SC, hSC⟩ : ∃ n, (cs.map cxN).sum = n := ⟨_, rfl⟩
      have hSF1 : SF ≤ 309622474372710400 := by
        have := sum_bd fxN 281474976702464 fs (fun f hf => by have := HFb.out f hf; unfold fxN; omega)
        rw [hSF] at this
        omega
      have hSC1 : SC ≤ 309622474372710400 := by
        have := sum_bd cxN 281474976702464 cs (fun f hf => by have := HCb.out f hf; unfold cxN; omega)
        rw [hSC] at this
        omega
      have HSF := Lib.hid hSF
      have HSC := Lib.hid hSC
      rw [hSF, hSC]
      clear hSF hSC
      go_enter Tryz.func24, Tryz.ntmps24
      go_wp2_with (fail)
      clear hw1 c0 c1
      go_loopw [3, 4] (fun v i wr => ∃ (n k : Nat), k ≤ fs.length ∧ v = .int .i64 n ∧ i = .int .i64 k ∧ n ≤ SF ∧ Hid (n = ((fs.take k).map fxN).sum) ∧ Hid (Below w1.heap.size w1 wr)) (fun _ i _ => fs.length - (intOf i).toNat)
      case atStart => exact ⟨0, 0, by omega, rfl, rfl, by omega, rfl, Below.refl _ _⟩
      case round =>
        obtain ⟨n, k, hk, rfl, rfl, hnY, HR, HW⟩ := hrel
        obtain ⟨b0, b1⟩ := HC.out.below HW.out
        simp only at b0 b1
        by_cases hlt : k < fs.length
        · obtain ⟨b, o, rfl, -, d0, d1, d2⟩ := (HI.out.below HW.out).f.fx hlt
          simp only at d0 d1 d2
          have hs := sum_take fxN fs k hlt
          have hs2 := sum_take_le fxN fs (k + 1)
          have hx : fxN fs[k] = fs[k].1.size + fs[k].2.2.size := rfl
          have HR2 : Hid (n + fs[k].1.size + fs[k].2.2.size = ((fs.take (k + 1)).map fxN).sum) := by show _ = _; rw [hs]; have := HR.out; omega
          have hnY2 : n + fs[k].1.size + fs[k].2.2.size ≤ SF := by have := HR2.out; have := HSF.out; omega
          generalize fs[k] = t at *
          obtain ⟨tn, td, tv⟩ := t
          simp only at d0 d1 d2 HR2 hnY2
          generalize hA1 : tn.size = a1 at *
          generalize hA2 : tv.size = a2 at *
          have e1 : IntKind.i64.wrap ((n : Int) + (a1 : Int)) = ((n + a1 : Nat) : Int) := by rw [IntKind.wrap_i64]; omega
          have e2 : IntKind.i64.wrap (((n + a1 : Nat) : Int) + (a2 : Int)) = ((n + a1 + a2 : Nat) : Int) := by rw [IntKind.wrap_i64]; omega
          have hk0 : (0 : Int) ≤ (k : Int) := by omega
          have hk1 : (k : Int) < (fs.length : Int) := by omega
          clear HI hs hs2 HR hx
          go_wp2_with (fail)
          go_quiet (fail)
          have HW2 := Lib.hid (below_dnO HW.out nq)
          go_wp2_with (fail)
          go_roundw
          case rel => exact ⟨n + a1 + a2, k + 1, by omega, by go_num, by go_num, by omega, HR2, HW2⟩
          case measure => simp [intOf]; omega
        · obtain rfl : k = fs.length := by omega
          obtain rfl : n = SF := by have h1 := HR.out; have h2 := HSF.out; rw [List.take_length] at h1; omega
          clear HR HSF hlt
          go_wp2_with (fail)
          go_loopw [3, 5] (fun v i wr => ∃ (m k : Nat), k ≤ cs.length ∧ v = .int .i64 (n + m : Nat) ∧ i = .int .i64 k ∧ m ≤ SC ∧ Hid (m = ((cs.take k).map cxN).sum) ∧ Hid (Below w1.heap.size w1 wr)) (fun _ i _ => cs.length - (intOf i).toNat)
          case atStart => exact ⟨0, 0, by omega, rfl, rfl, by omega, rfl, HW.out⟩
          case round =>
            clear b0 b1 HW
            obtain ⟨m, k, hk, rfl, rfl, hmY, HR, HW⟩ := hrel
            obtain ⟨b0, b1⟩ := HC.out.below HW.out
            simp only at b0 b1
            by_cases hlt : k < cs.length
            · obtain ⟨b, o, rfl, -, d0, d1, d2, d3⟩ := (HI.out.below HW.out).c.cx hlt
              simp only at d0 d1 d2 d3
              have hs := sum_take cxN cs k hlt
              have hs2 := sum_take_le cxN cs (k + 1)
              have hx : cxN cs[k] = cs[k].1.size + cs[k].2.1.size := rfl
              have HR2 : Hid (m + cs[k].1.size + cs[k].2.1.size = ((cs.take (k + 1)).map cxN).sum) := by show _ = _; rw [hs]; have := HR.out; omega
              have hmY2 : m + cs[k].1.size + cs[k].2.1.size ≤ SC := by have := HR2.out; have := HSC.out; omega
              generalize cs[k] = t at *
              obtain ⟨tp, tn, td, tb⟩ := t
              simp only at d0 d1 d2 d3 HR2 hmY2
              generalize hA1 : tp.size = a1 at *
              generalize hA2 : tn.size = a2 at *
              obtain ⟨N, hN⟩ : ∃ N : Int, ((n + m : Nat) : Int) = N := ⟨_, rfl⟩
              have hN1 : N ≤ 619244948745420800 := by omega
              have hN0 : 0 ≤ N := by omega
              have e1 : IntKind.i64.wrap (N + (a1 : Int)) = N + a1 := by rw [IntKind.wrap_i64]; omega
              have e2 : IntKind.i64.wrap (N + (a1 : Int) + (a2 : Int)) = N + a1 + a2 := by rw [IntKind.wrap_i64]; omega
              have hk0 : (0 : Int) ≤ (k : Int) := by omega
              have hk1 : (k : Int) < (cs.length : Int) := by omega
              have HN := Lib.hid hN
              rw [hN]
              clear HI hs hs2 HR hx hN
              go_wp2_with (fail)
              go_quiet (fail)
              have HW2 := Lib.hid (below_dnO HW.out nq)
              go_wp2_with (fail)
              go_roundw
              case rel => exact ⟨m + a1 + a2, k + 1, by omega, by have := HN.out; rw [← this]; congr 1; omega, by go_num, by omega, HR2, HW2⟩
              case measure => simp [intOf]; omega
            · obtain rfl : k = cs.length := by omega
              obtain rfl : m = SC := by have h1 := HR.out; have h2 := HSC.out; rw [List.take_length] at h1; omega
              clear HR HSC hlt
              go_wp2_with (fail)
              go_ret
              exact ⟨rfl, btO HB.out HW.out⟩
end Go.Proofs.YtbfimfjhdbpenaaGreatDoor
/- Layer 8: SameEnv. -/
namespace Go.Proofs.YtbfimfjhdbpenaaGreatDoor
open Go Go.RowKit Go.BigFrame
theorem str_cases (a b : ByteArray) : a = b ∨ (a.toList == b.toList) = false := by
  rw [Lib.toList_data, Lib.toList_data]
  by_cases h : a.data.toList = b.data.toList
  · refine .inl ?_
    cases a; cases b
    exact congrArg ByteArray.mk (Array.toList_inj.1 h)
  · exact .inr (by rw [beq_eq_false_iff_ne]; exact h)
theorem str_ne {a b : ByteArray} (h : (a.toList == b.toList) = false) : a ≠ b := by
  rintro rfl
  rw [beq_eq_false_iff_ne] at h
  exact h rfl
theorem fx_cases (x y : Fx) : x = y ∨ (x ≠ y ∧ ((x.1.toList == y.1.toList) = false ∨ (x.1 = y.1 ∧ (x.2.1 == y.2.1) = false) ∨ (x.1 = y.1 ∧ x.2.1 = y.2.1 ∧ (x.2.2.toList == y.2.2.toList) = false))) := by
  obtain ⟨a, b, c⟩ := x
  obtain ⟨a', b', c'⟩ := y
  rcases str_cases a a' with rfl | h
  · by_cases hb : b = b'
    · subst hb
      rcases str_cases c c' with rfl | h
      · exact .inl rfl
      · exact .inr ⟨fun e => str_ne h (by injection e with _ e; injection e), .inr (.inr ⟨rfl, rfl, h⟩)⟩
    · exact .inr ⟨fun e => hb (by injection e with _ e; injection e), .inr (.inl ⟨rfl, by rw [beq_eq_false_iff_ne]; exact hb⟩)⟩
  · exact .inr ⟨fun e => str_ne h (by injection e), .inl h⟩
theorem cx_cases (x y : Cx) : x = y ∨ (x ≠ y ∧ ((x.1.toList == y.1.toList) = false ∨ (x.1 = y.1 ∧ (x.2.1.toList == y.2.1.toList) = false) ∨ (x.1 = y.1 ∧ x.2.1 = y.2.1 ∧ (x.2.2.1 == y.2.2.1) = false) ∨ (x.1 = y.1 ∧ x.2.1 = y.2.1 ∧ x.2.2.1 = y.2.2.1 ∧ (x.2.2.2 == y.2.2.2) = false))) := by
  obtain ⟨a, b, c, d⟩ := x
  obtain ⟨a', b', c', d'⟩ := y
  rcases str_cases a a' with rfl | h
  · rcases str_cases b b' with rfl | h
    · by_cases hc : c = c'
      · subst hc
        by_cases hd : d = d'
        · subst hd; exact .inl rfl
        · exact .inr ⟨fun e => hd (by injection e with _ e; injection e with _ e; injection e), .inr (.inr (.inr ⟨rfl, rfl, rfl, by rw [beq_eq_false_iff_ne]; exact hd⟩))⟩
      · exact .inr ⟨fun e => hc (by injection e with _ e; injection e with _ e; injection e), .inr (.inr (.inl ⟨rfl, rfl, by rw [beq_eq_false_iff_ne]; exact hc⟩))⟩
    · exact .inr ⟨fun e => str_ne h (by injection e with _ e; injection e), .inr (.inl ⟨rfl, h⟩)⟩
  · exact .inr ⟨fun e => str_ne h (by injection e), .inl h⟩
theorem list_ext_lt {α : Type} {a b : List α} (hl : a.length = b.length) : a = b ↔ ∀ j (h : j < a.length) (h' : j < b.length), a[j] = b[j] := by
  constructor
  · rintro rfl j h h'; rfl
  · exact fun h => List.ext_getElem hl fun j h1 h2 => h j h1 h2
set_option maxRecDepth 100000 in
set_option maxHeartbeats 6400000 in
theorem sameEnv_any (E G : Ev) (b : Bool) (hb : b = true ↔ E.fs = G.fs ∧ E.cs = G.cs) (w : World) (hE : E.In w) (hG : G.In w) : Calls Tryz.prog 31 #[E.val, G.val] w (BoolRO b w) := by
  have mixed : Tryz.prog.follows Departure.mixedOrders = true := by kernel_rfl
  obtain ⟨fA, fs, fc, cA, cs, cc⟩ := E
  obtain ⟨gA, gs, gc, dA, ds, dc⟩ := G
  have HB1 := belO w (.cells #[.slice fA fs.length fc, .slice cA cs.length cc] 38)
  have hC : Ev.Box (w.alloc (.cells #[.slice fA fs.length fc, .slice cA cs.length cc] 38)) w.heap.size ⟨fA, fs, fc, cA, cs, cc⟩ := Ev.Box.new w ⟨fA, fs, fc, cA, cs, cc⟩ 38
  obtain ⟨w0, hw0⟩ : ∃ w0, w.alloc (.cells #[.slice fA fs.length fc, .slice cA cs.length cc] 38) = w0 := ⟨_, rfl⟩
  rw [hw0] at HB1 hC
  have hs0 : w0.heap.size = w.heap.size + 1 := by rw [← hw0, World.size_alloc]
  have HB2 := belO w0 (.cells #[.slice gA gs.length gc, .slice dA ds.length dc] 38)
  have hD : Ev.Box (w0.alloc (.cells #[.slice gA gs.length gc, .slice dA ds.length dc] 38)) w0.heap.size ⟨gA, gs, gc, dA, ds, dc⟩ := Ev.Box.new w0 ⟨gA, gs, gc, dA, ds, dc⟩ 38
  obtain ⟨w1, hw1⟩ : ∃ w1, w0.alloc (.cells #[.slice gA gs.length gc, .slice dA ds.length dc] 38) = w1 := ⟨_, rfl⟩
  rw [hw1] at HB2 hD
  rw [hs0] at hD
  have HB := Lib.hid (btO HB1 HB2)
  have HE := Lib.hid ((hE.below HB1).below HB2)
  have HG := Lib.hid ((hG.below HB1).below HB2)
  have HC := Lib.hid (hC.below HB2)
  have HD := Lib.hid hD
  have hfl : fs.length ≤ 140737488351232 := hE.fl
  have hcl : cs.length ≤ 140737488351232 := hE.cl
  have c0 : w1.cell? ⟨w.heap.size, 0, none⟩ = some (.slice fA fs.length fc) := HC.out.c0
  have c1 : w1.cell? ⟨w.heap.size, 1, none⟩ = some (.slice cA cs.length cc) := HC.out.c1
  have c2 : w1.cell? ⟨w.heap.size + 1, 0, none⟩ = some (.slice gA gs.length gc) := hD.c0
  have c3 : w1.cell? ⟨w.heap.size + 1, 1, none⟩ = some (.slice dA ds.length dc) := hD.c1
  show Calls Tryz.prog 31 #[.agg #[.slice fA fs.length fc, .slice cA cs.length cc], .agg #[.slice gA gs.length gc, .slice dA ds.length dc]] w _
  have hb' : b = true ↔ fs = gs ∧ cs = ds := hb
  clear hE hG HB1 HB2 hC hD hb
  by_cases hl1 : fs.length = gs.length
  · by_cases hl2 : cs.length = ds.length
    · have HX : Hid (b = true ↔ (∀ j (h : j < fs.length) (h' : j < gs.length), fs[j] = gs[j]) ∧ (∀ j (h : j < cs.length) (h' : j < ds.length), cs[j] = ds[j])) := by
        show _ ↔ _
        rw [hb', list_ext_lt hl1, list_ext_lt hl2]
      have HL1 := Lib.hid hl1
      have HL2 := Lib.hid hl2
      have n1 : ((fs.length : Int) != (gs.length : Int)) = false := by rw [bne_eq_false_iff_eq]; omega
      have n2 : ((cs.length : Int) != (ds.length : Int)) = false := by rw [bne_eq_false_iff_eq]; omega
      clear hb' hl1 hl2
      go_enter Tryz.func31, Tryz.ntmps31
      go_wp2_with (fail)
      clear hw0 hw1 c0 c1 c2 c3 hs0 n1 n2
      go_loopw [5] (fun i wr => ∃ k : Nat, k ≤ fs.length ∧ i = .int .i64 k ∧ Hid (∀ j (h : j < fs.length) (h' : j < gs.length), j < k → fs[j] = gs[j]) ∧ Hid (Below w1.heap.size w1 wr)) (fun i _ => fs.length - (intOf i).toNat)
      case atStart => exact ⟨0, by omega, rfl, fun j h h' g => by omega, Below.refl _ _⟩
      case round =>
        obtain ⟨k, hk, rfl, HI, HW⟩ := hrel
        have b0 : wr.cell? ⟨w.heap.size, 0, none⟩ = some (.slice fA fs.length fc) := (HC.out.below HW.out).c0
        have b1 : wr.cell? ⟨w.heap.size, 1, none⟩ = some (.slice cA cs.length cc) := (HC.out.below HW.out).c1
        have b2 : wr.cell? ⟨w.heap.size + 1, 0, none⟩ = some (.slice gA gs.length gc) := (HD.out.below HW.out).c0
        have b3 : wr.cell? ⟨w.heap.size + 1, 1, none⟩ = some (.slice dA ds.length dc) := (HD.out.below HW.out).c1
        by_cases hlt : k < fs.length
        · have hlt2 : k < gs.length := by have := HL1.out; omega
          obtain ⟨bb, o, e1, -, d0, d1, d2⟩ := (HE.out.below HW.out).f.fx hlt
          obtain ⟨bb', o', e2, -, g0, g1, g2⟩ := (HG.out.below HW.out).f.fx hlt2
          simp only at e1 e2 d0 d1 d2 g0 g1 g2
          subst e1 e2
          have HX2 : Hid (fs[k] = gs[k] → ∀ j (h : j < fs.length) (h' : j < gs.length), j < k + 1 → fs[j] = gs[j]) := fun g j hj hj' hjk => by
            rcases Nat.lt_or_ge j k with q | q
            · exact HI.out j hj hj' q
            · obtain rfl : j = k := by omega
              exact g
          have HY : Hid (fs[k] ≠ gs[k] → b = false) := fun g => by
            cases b
            · rfl
            · exact absurd ((HX.out.1 rfl).1 k hlt hlt2) g
          have hc := fx_cases fs[k] gs[k]
          have hk0 : (0 : Int) ≤ (k : Int) := by omega
          have hk1 : (k : Int) < (fs.length : Int) := by omega
          have hk2 : (k : Int) < (gs.length : Int) := by omega
          generalize fs[k] = x at *
          generalize gs[k] = y at *
          clear HI HX HE HG
          rcases hc with rfl | ⟨hne, hc⟩
          · have HI2 := Lib.hid (HX2.out rfl)
            obtain ⟨x1, x2, x3⟩ := x
            simp only at d0 d1 d2 g0 g1 g2
            clear HX2 HY
            go_wp2_with (fail)
            go_quiet (fail)
            have HW2 := Lib.hid (below_dnO HW.out nq)
            go_wp2_with (fail)
            go_roundw
            case rel => exact ⟨k + 1, by omega, by go_num, HI2, HW2⟩
            case measure => simp [intOf]; omega
          · obtain rfl := HY.out hne
            obtain ⟨x1, x2, x3⟩ := x
            obtain ⟨y1, y2, y3⟩ := y
            simp only at d0 d1 d2 g0 g1 g2 hc
            clear HX2 HY hne
            rcases hc with g | ⟨rfl, g⟩ | ⟨rfl, rfl, g⟩
            all_goals
              go_wp2_with (fail)
              go_quiet (fail)
              have HW2 := Lib.hid (below_dnO HW.out nq)
              go_wp2_with (fail)
              go_ret
              exact ⟨rfl, btO HB.out HW2.out⟩
        · obtain rfl : k = fs.length := by omega
          have HXf := Lib.hid (fun j h h' => HI.out j h h' h)
          clear HI
          go_wp2_with (fail)
          go_loopw [6] (fun i wr => ∃ k : Nat, k ≤ cs.length ∧ i = .int .i64 k ∧ Hid (∀ j (h : j < cs.length) (h' : j < ds.length), j < k → cs[j] = ds[j]) ∧ Hid (Below w1.heap.size w1 wr)) (fun i _ => cs.length - (intOf i).toNat)
          case atStart => exact ⟨0, by omega, rfl, fun j h h' g => by omega, HW.out⟩
          case round =>
            clear b0 b1 b2 b3 HW
            obtain ⟨k, hk, rfl, HI, HW⟩ := hrel
            have b0 : wr.cell? ⟨w.heap.size, 0, none⟩ = some (.slice fA fs.length fc) := (HC.out.below HW.out).c0
            have b1 : wr.cell? ⟨w.heap.size, 1, none⟩ = some (.slice cA cs.length cc) := (HC.out.below HW.out).c1
            have b2 : wr.cell? ⟨w.heap.size + 1, 0, none⟩ = some (.slice gA gs.length gc) := (HD.out.below HW.out).c0
            have b3 : wr.cell? ⟨w.heap.size + 1, 1, none⟩ = some (.slice dA ds.length dc) := (HD.out.below HW.out).c1
            by_cases hlt : k < cs.length
            · have hlt2 : k < ds.length := by have := HL2.out; omega
              obtain ⟨bb, o, e1, -, d0, d1, d2, d3⟩ := (HE.out.below HW.out).c.cx hlt
              obtain ⟨bb', o', e2, -, g0, g1, g2, g3⟩ := (HG.out.below HW.out).c.cx hlt2
              simp only at e1 e2 d0 d1 d2 d3 g0 g1 g2 g3
              subst e1 e2
              have HX2 : Hid (cs[k] = ds[k] → ∀ j (h : j < cs.length) (h' : j < ds.length), j < k + 1 → cs[j] = ds[j]) := fun g j hj hj' hjk => by
                rcases Nat.lt_or_ge j k with q | q
                · exact HI.out j hj hj' q
                · obtain rfl : j = k := by omega
                  exact g
              have HY : Hid (cs[k] ≠ ds[k] → b = false) := fun g => by
                cases b
                · rfl
                · exact absurd ((HX.out.1 rfl).2 k hlt hlt2) g
              have hc := cx_cases cs[k] ds[k]
              have hk0 : (0 : Int) ≤ (k : Int) := by omega
              have hk1 : (k : Int) < (cs.length : Int) := by omega
              have hk2 : (k : Int) < (ds.length : Int) := by omega
              generalize cs[k] = x at *
              generalize ds[k] = y at *
              clear HI HX HE HG
              rcases hc with rfl | ⟨hne, hc⟩
              · have HI2 := Lib.hid (HX2.out rfl)
                obtain ⟨x1, x2, x3, x4⟩ := x
                simp only at d0 d1 d2 d3 g0 g1 g2 g3
                clear HX2 HY
                go_wp2_with (fail)
                go_quiet (fail)
                have HW2 := Lib.hid (below_dnO HW.out nq)
                go_wp2_with (fail)
                go_roundw
                case rel => exact ⟨k + 1, by omega, by go_num, HI2, HW2⟩
                case measure => simp [intOf]; omega
              · obtain rfl := HY.out hne
                obtain ⟨x1, x2, x3, x4⟩ := x
                obtain ⟨y1, y2, y3, y4⟩ := y
                simp only at d0 d1 d2 d3 g0 g1 g2 g3 hc
                clear HX2 HY hne
                rcases hc with g | ⟨rfl, g⟩ | ⟨rfl, rfl, g⟩ | ⟨rfl, rfl, rfl, g⟩
                all_goals
                  go_wp2_with (fail)
                  go_quiet (fail)
                  have HW2 := Lib.hid (below_dnO HW.out nq)
                  go_wp2_with (fail)
                  go_ret
                  exact ⟨rfl, btO HB.out HW2.out⟩
            · obtain rfl : k = cs.length := by omega
              obtain rfl : b = true := HX.out.2 ⟨HXf.out, fun j h h' => HI.out j h h' h⟩
              clear HI HX
              go_wp2_with (fail)
              go_ret
              exact ⟨rfl, btO HB.out HW.out⟩
    · have hf : b = false := by
        cases b
        · rfl
        · exact absurd (congrArg List.length (hb'.1 rfl).2) hl2
      subst hf
      have n1 : ((fs.length : Int) != (gs.length : Int)) = false := by rw [bne_eq_false_iff_eq]; omega
      have n2 : ((cs.length : Int) != (ds.length : Int)) = true := by rw [bne_iff_ne]; omega
      clear hb' hl1 hl2
      go_enter Tryz.func31, Tryz.ntmps31
      go_wp2_with (fail)
      go_ret
      exact ⟨rfl, HB.out⟩
  · have hf : b = false := by
      cases b
      · rfl
      · exact absurd (congrArg List.length (hb'.1 rfl).1) hl1
    subst hf
    have n1 : ((fs.length : Int) != (gs.length : Int)) = true := by rw [bne_iff_ne]; omega
    clear hb' hl1
    go_enter Tryz.func31, Tryz.ntmps31
    go_wp2_with (fail)
    go_ret
    exact ⟨rfl, HB.out⟩
end Go.Proofs.YtbfimfjhdbpenaaGreatDoor
/- Layer 8: partsOf, hasParts, wellFormed, Check, Number, Truth of the program. -/
namespace Go.Proofs.YtbfimfjhdbpenaaGreatDoor
open Go Go.RowKit Go.BigFrame
end Go.Proofs.YtbfimfjhdbpenaaGreatDoor
/- Layer 8: Number, Truth of the program; Size of both; Depth of the reference. -/
namespace Go.Proofs.YtbfimfjhdbpenaaGreatDoor
open Go Go.RowKit Go.BigFrame
end Go.Proofs.YtbfimfjhdbpenaaGreatDoor
/- Layer 8, plain: a thing put in its place. -/
namespace Go.Proofs.YtbfimfjhdbpenaaGreatDoor
open Go Go.RowKit
section
variable {α : Type} (key : α → Key) (x : α)
def posL (l : List α) : Nat := (l.takeWhile fun y => ltK (key y) (key x)).length
def eqAt (l : List α) (i : Nat) : Bool := match l[i]? with | some y => decide (key y = key x) | none => false
def insL (l : List α) : List α := l.take (posL key x l) ++ x :: l.drop (if eqAt key x l (posL key x l) then posL key x l + 1 else posL key x l)
def rfL : Bool → List α → List α
  | put, [] => if put then [] else [x]
  | put, y :: l => (if !put && !ltK (key y) (key x) then [x] else []) ++ ((if key y = key x then [] else [y]) ++ rfL (put || !ltK (key y) (key x)) l)
end
section
variable {α : Type} {key : α → Key} {x : α}
theorem Inc.tail {y : α} {l : List α} (h : Inc key (y :: l)) : Inc key l := fun i j hi hj => by
  have := h (i + 1) (j + 1) (by omega) (by simpa using hj)
  simpa using this
theorem Inc.head {y : α} {l : List α} (h : Inc key (y :: l)) : ∀ z ∈ l, ltK (key y) (key z) = true := fun z hz => by
  obtain ⟨j, hj, rfl⟩ := List.getElem_of_mem hz
  have := h 0 (j + 1) (by omega) (by simpa using hj)
  simpa using this
theorem posL_cons (y : α) (l : List α) : posL key x (y :: l) = if ltK (key y) (key x) then posL key x l + 1 else 0 := by
  unfold posL
  rw [List.takeWhile_cons]
  split <;> rfl
theorem posL_le (l : List α) : posL key x l ≤ l.length := by
  induction l with
  | nil => exact Nat.le_refl _
  | cons y l ih => rw [posL_cons]; split <;> simp <;> omega
theorem posL_iff (l : List α) (h : Inc key l) : ∀ j (hj : j < l.length), ltK (key l[j]) (key x) = true ↔ j < posL key x l := by
  induction l with
  | nil => intro j hj; simp at hj
  | cons y l ih =>
    intro j hj
    rw [posL_cons]
    cases hy : ltK (key y) (key x)
    · simp only [Bool.false_eq_true, if_false]
      constructor
      · intro g
        exfalso
        cases j with
        | zero => simp only [List.getElem_cons_zero] at g; rw [hy] at g; cases g
        | succ j =>
          have h1 := h 0 (j + 1) (by omega) hj
          have := ltK_trans h1 g
          simp only [List.getElem_cons_zero] at this
          rw [hy] at this; cases this
      · omega
    · simp only [if_true]
      cases j with
      | zero => simp [hy]
      | succ j =>
        have := ih h.tail j (by simpa using hj)
        simp only [List.getElem_cons_succ]
        rw [this]; omega
theorem rfL_true (l : List α) (h : ∀ z ∈ l, key z ≠ key x) : rfL key x true l = l := by
  induction l with
  | nil => rfl
  | cons y l ih =>
    rw [rfL]
    simp only [Bool.not_true, Bool.false_and, Bool.false_eq_true, if_false, List.nil_append, Bool.true_or]
    rw [if_neg (h y (List.mem_cons_self ..)), ih (fun z hz => h z (List.mem_cons_of_mem _ hz))]
    rfl
theorem rfL_eq (l : List α) (h : Inc key l) : rfL key x false l = insL key x l := by
  induction l with
  | nil => rfl
  | cons y l ih =>
    rw [rfL]
    unfold insL
    rw [posL_cons]
    cases hy : ltK (key y) (key x)
    · simp only [Bool.not_false, Bool.and_self, if_true, Bool.or_true, Bool.false_eq_true, if_false, List.take_zero, List.nil_append]
      have hz : ∀ z ∈ l, key z ≠ key x := fun z hz e => by
        have := h.head z hz
        rw [e, hy] at this; cases this
      rw [rfL_true l hz]
      by_cases he : key y = key x
      · rw [if_pos he]
        have : eqAt key x (y :: l) 0 = true := by unfold eqAt; simp [he]
        rw [this]; rfl
      · rw [if_neg he]
        have : eqAt key x (y :: l) 0 = false := by unfold eqAt; simp [he]
        rw [this]; rfl
    · have he : key y ≠ key x := fun e => by rw [e, ltK_irrefl] at hy; cases hy
      simp only [Bool.not_true, Bool.and_false, Bool.false_eq_true, if_false, List.nil_append, Bool.false_or, if_true]
      rw [if_neg he, ih h.tail]
      unfold insL
      have : eqAt key x (y :: l) (posL key x l + 1) = eqAt key x l (posL key x l) := by unfold eqAt; simp
      rw [this]
      split
      · rw [List.take_succ_cons, List.drop_succ_cons]; rfl
      · rw [List.take_succ_cons, List.drop_succ_cons]; rfl
theorem insL_len (l : List α) : (insL key x l).length = posL key x l + 1 + (l.drop (if eqAt key x l (posL key x l) then posL key x l + 1 else posL key x l)).length := by
  unfold insL
  rw [List.length_append, List.length_cons, List.length_take, Nat.min_eq_left (posL_le l)]
  omega
theorem eqAt_lt {l : List α} {i : Nat} (h : eqAt key x l i = true) : i < l.length := by
  unfold eqAt at h
  rcases Nat.lt_or_ge i l.length with g | g
  · exact g
  · rw [List.getElem?_eq_none g] at h; cases h
end
def putFE (fs : List Fx) (cs : List Cx) (f : Fx) : Int :=
  if envE' fs cs ≠ 0 then envE' fs cs else if (nameO f.1.data.toList && dayO f.2.1) = false then 2 else if chkR f.2.2.data.toList ≠ 0 then chkR f.2.2.data.toList else if 1000 < (insL Fx.key f fs).length then 22 else 0
where envE' (fs : List Fx) (cs : List Cx) : Int := if 1000 < fs.length ∨ 1000 < cs.length then 4 else if ordB Fx.key Fx.ok fs && ordB Cx.key Cx.ok cs then 0 else 8
end Go.Proofs.YtbfimfjhdbpenaaGreatDoor
/- Layer 8, plain: ordered lists and a thing put in its place: members, order, two things put. -/
namespace Go.Proofs.YtbfimfjhdbpenaaGreatDoor
open Go Go.RowKit
section
variable {α : Type} {key : α → Key}
theorem inc_behind {x y : α} {l : List α} (h : Inc key (y :: l)) (hy : ltK (key y) (key x) = false) : ∀ z ∈ l, key z ≠ key x := fun z hz e => by
  have := h.head z hz
  rw [e, hy] at this; cases this
theorem mem_insL {x : α} {l : List α} (h : Inc key l) (z : α) : z ∈ insL key x l ↔ z = x ∨ (z ∈ l ∧ key z ≠ key x) := by
  rw [← rfL_eq l h]
  induction l with
  | nil => simp [rfL]
  | cons y l ih =>
    rw [rfL]
    cases hy : ltK (key y) (key x)
    · simp only [Bool.not_false, Bool.and_self, if_true, Bool.or_true]
      rw [rfL_true l (inc_behind h hy)]
      have hb := inc_behind h hy
      by_cases e : key y = key x
      · rw [if_pos e]
        simp only [List.nil_append, List.cons_append, List.mem_cons]
        constructor
        · rintro (g | g)
          · exact .inl g
          · exact .inr ⟨.inr g, hb z g⟩
        · rintro (g | ⟨g | g, k⟩)
          · exact .inl g
          · rw [g] at k; exact absurd e k
          · exact .inr g
      · rw [if_neg e]
        simp only [List.nil_append, List.cons_append, List.mem_cons]
        constructor
        · rintro (g | g | g)
          · exact .inl g
          · exact .inr ⟨.inl g, by rw [g]; exact e⟩
          · exact .inr ⟨.inr g, hb z g⟩
        · rintro (g | ⟨g | g, k⟩)
          · exact .inl g
          · exact .inr (.inl g)
          · exact .inr (.inr g)
    · have e : key y ≠ key x := fun e => by rw [e, ltK_irrefl] at hy; cases hy
      simp only [Bool.not_true, Bool.and_false, Bool.false_eq_true, if_false, Bool.or_false, if_neg e, List.nil_append, List.cons_append, List.mem_cons]
      rw [ih h.tail]
      constructor
      · rintro (g | g | ⟨g, k⟩)
        · exact .inr ⟨.inl g, by rw [g]; exact e⟩
        · exact .inl g
        · exact .inr ⟨.inr g, k⟩
      · rintro (g | ⟨g | g, k⟩)
        · exact .inr (.inl g)
        · exact .inl g
        · exact .inr (.inr ⟨g, k⟩)
end
end Go.Proofs.YtbfimfjhdbpenaaGreatDoor

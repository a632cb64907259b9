/- Joined: ObX, ObY, ObZ, ObZ2, ObZ3, ObW3, ObZ4, ObZ5, ObB2, OeV. -/
import Derived.Test.YtbfimfjhdbpenaaGreatDoorPk18
import Derived.Test.YtbfimfjhdbpenaaGreatDoorPk22
import Derived.Test.YtbfimfjhdbpenaaGreatDoorPk21
import Derived.Test.YtbfimfjhdbpenaaGreatDoorPk15
import Derived.Test.YtbfimfjhdbpenaaGreatDoorPk16
import Derived.OwnWalk
import Derived.Laws.OwnMore
import Derived.Laws.AppendOwn
import Derived.Deep.RegionHeld3
import Derived.Deep.RegionLaw
/- Layer 8: lists of structs in rows of the call's own; append to an empty slice. -/
namespace Go.Proofs.YtbfimfjhdbpenaaGreatDoor
open Go Go.RowKit Go.BigFrame
def rowsV {α : Type} (enc : α → List Value) (l : List α) : List Value := l.flatMap enc
theorem rowsV_snoc {α : Type} (enc : α → List Value) (l : List α) (x : α) : rowsV enc (l ++ [x]) = rowsV enc l ++ enc x := by unfold rowsV; simp
theorem rowsV_append {α : Type} (enc : α → List Value) (l m : List α) : rowsV enc (l ++ m) = rowsV enc l ++ rowsV enc m := by unfold rowsV; simp
theorem rowsV_len {α : Type} {enc : α → List Value} {k : Nat} (hk : ∀ x, (enc x).length = k) (l : List α) : (rowsV enc l).length = l.length * k := by
  induction l with
  | nil => simp [rowsV]
  | cons x l ih =>
    show (enc x ++ rowsV enc l).length = _
    rw [List.length_append, ih, hk, List.length_cons, Nat.add_mul]; omega
theorem rowsV_get {α : Type} {enc : α → List Value} {k : Nat} (hk : ∀ x, (enc x).length = k) (l : List α) : ∀ (j : Nat) (hj : j < l.length) (i : Nat), i < k → (rowsV enc l)[j * k + i]? = (enc l[j])[i]? := by
  induction l with
  | nil => intro j hj; simp at hj
  | cons x l ih =>
    intro j hj i hi
    show (enc x ++ rowsV enc l)[j * k + i]? = _
    cases j with
    | zero =>
      rw [Nat.zero_mul, Nat.zero_add, List.getElem?_append_left (by rw [hk]; exact hi)]
      rfl
    | succ j =>
      rw [List.getElem?_append_right (by rw [hk, Nat.add_mul]; omega), hk, show (j + 1) * k + i - k = j * k + i by rw [Nat.add_mul]; omega]
      exact ih j (by simpa using hj) i hi
theorem rowsV_one {α : Type} {enc : α → List Value} (h1 : ∀ x, ∀ u ∈ enc x, u.oneCell' = true) (l : List α) : ∀ u ∈ rowsV enc l, u.oneCell' = true := by
  intro u hu
  unfold rowsV at hu
  rw [List.mem_flatMap] at hu
  obtain ⟨x, -, hx⟩ := hu
  exact h1 x u hx
theorem fxC_len (x : Fx) : (fxC x).length = 3 := rfl
theorem cxC_len (x : Cx) : (cxC x).length = 4 := rfl
theorem fxC_one (x : Fx) : ∀ u ∈ fxC x, u.oneCell' = true := by
  intro u hu
  simp only [fxC, List.mem_cons, List.not_mem_nil, or_false] at hu
  rcases hu with rfl | rfl | rfl <;> rfl
theorem cxC_one (x : Cx) : ∀ u ∈ cxC x, u.oneCell' = true := by
  intro u hu
  simp only [cxC, List.mem_cons, List.not_mem_nil, or_false] at hu
  rcases hu with rfl | rfl | rfl | rfl <;> rfl
theorem RowsR.news {α : Type} {enc : α → List Value} {k : Nat} (hk : ∀ x, (enc x).length = k) (h0 : 0 < k) {w : World} {ad : Addr} {l : List α} (h : RowsR w (some ad) k enc l) : ∀ j u, (rowsV enc l)[j]? = some u → w.cell? (ad.add j) = some u := by
  intro j u hu
  have hlt : j < l.length * k := by rw [← rowsV_len hk l]; exact (List.getElem?_eq_some_iff.1 hu).1
  have hq : j / k < l.length := Nat.div_lt_of_lt_mul (by rw [Nat.mul_comm]; exact hlt)
  have hr : j % k < k := Nat.mod_lt _ h0
  have e : j / k * k + j % k = j := Nat.div_add_mod' j k
  obtain ⟨b, o, h1, -, h3⟩ := h (j / k) hq
  injection h1 with h1
  subst h1
  rw [add_off, ← e]
  apply h3
  rw [← rowsV_get hk l (j / k) hq (j % k) hr, e]
  exact hu
theorem RowsR.of_own {α : Type} {enc : α → List Value} {k : Nat} (hk : ∀ x, (enc x).length = k) (h0 : 0 < k) {w : World} {base : Nat} {e : TypeId} {n : Nat} {v : Value} {l : List α} (h : w.ownsRow base e k v n (rowsV enc l)) :
    ∃ A c, v = .slice A n c ∧ n = l.length ∧ RowsR w A k enc l ∧ (A = none → c = 0) ∧ (∀ b o, A = some ⟨b, o, none⟩ → base ≤ b ∧ o = 0) ∧ n ≤ c ∧ c ≤ maxLen := by
  have hl : n = l.length := by
    have := h.1
    rw [rowsV_len hk] at this
    exact (Nat.eq_of_mul_eq_mul_right h0 this).symm
  rcases h.2 with ⟨hv, hn⟩ | ⟨g, cap, cur, hv, hb, hh, hnc, hm, _⟩
  · refine ⟨none, 0, by rw [hv, hn], hl, ?_, fun _ => rfl, fun b o h => (by cases h), by omega, by unfold maxLen; omega⟩
    intro j hj
    omega
  · refine ⟨some ⟨g, 0, none⟩, cap, hv, hl, ?_, fun h => (by cases h), fun b o h => ?_, hnc, hm⟩
    · intro j hj
      refine ⟨g, 0, rfl, lt_of_block hh, fun i u hu => ?_⟩
      have hi : i < k := by rw [← hk l[j]]; exact (List.getElem?_eq_some_iff.1 hu).1
      subst hv
      have := h.cells (g := g) rfl (j * k + i) u (by rw [rowsV_get hk l j hj i hi]; exact hu)
      rwa [add_off] at this
    · injection h with h
      injection h with h1 h2 _
      subst h1 h2
      exact ⟨hb, rfl⟩
section
variable {P : Program} {w : World}
theorem run_app0 (t ty e : TypeId) (i : TypeInfo) (ht : P.underlying t = some (.slice e)) (hi : P.info? e = some i) (bs : Option Addr) (n cap : Nat) (hn : n ≤ cap) (A : Option Addr) (c : Nat) :
    (Builtin.append_ #[t, t] ty #[.slice bs n cap, .slice A 0 c]).run P w = .ok (.slice bs n cap) w := by
  cases A with
  | none => cases bs <;> simp [Builtin.append_, run_underlying ht, sizeOf, typeInfo, hi, Builtin.lenOf, Builtin.firstCells, hn, storeCells]
  | some a =>
    have hf := run_firstCells_some (P := P) w i.size 0 a 0 c [] (by simp) (by simp)
    cases bs <;> simp [Builtin.append_, run_underlying ht, sizeOf, typeInfo, hi, Builtin.lenOf, hn, hf, storeCells]
end
def CapR (A : Option Addr) (n c : Nat) : Prop := n ≤ c ∧ c ≤ maxLen ∧ (A = none → c = 0)
structure NewR {α : Type} (w : World) (B : Nat) (A : Option Addr) (k : Nat) (enc : α → List Value) (l : List α) : Prop where
  rd : RowsR w A k enc l
  new : l ≠ [] → ∀ b o, A = some ⟨b, o, none⟩ → B ≤ b
theorem NewR.below {α : Type} {w w' : World} {B : Nat} {A : Option Addr} {k : Nat} {enc : α → List Value} {l : List α} (h : NewR w B A k enc l) (hb : Below w.heap.size w w') : NewR w' B A k enc l := ⟨h.rd.below hb, h.new⟩
theorem NewR.set {α : Type} {w : World} {B : Nat} {A : Option Addr} {k : Nat} {enc : α → List Value} {l : List α} (h : NewR w B A k enc l) (p : Addr) (hp : p.block < B) (u : Value) : NewR (w.setCell p u) B A k enc l := by
  refine ⟨fun j hj => ?_, h.new⟩
  obtain ⟨b, o, h1, h2, h3⟩ := h.rd j hj
  have hne : p.block ≠ b := by
    have := h.new (List.ne_nil_of_length_pos (by omega)) b o h1
    omega
  exact ⟨b, o, h1, by rw [World.size_setCell]; exact h2, fun i v hv => (World.cell?_setCell_far w p _ u hne).trans (h3 i v hv)⟩
section
variable {P : Program} {w : World} {α : Type} {enc : α → List Value} {k : Nat}
theorem run_appE (hk : ∀ x, (enc x).length = k) (h0 : 0 < k) (t ty e : TypeId) (i : TypeInfo) (z : Value) (bytes : Nat) (ht : P.underlying t = some (.slice e)) (hi : P.info? e = some i) (hz : i.zero = some z) (hsize : i.size = k) (hby : i.bytes = bytes)
    (bs : Option Addr) (A : Option Addr) (c : Nat) (l : List α) (hl : RowsR w A k enc l) (b63 : l.length ≤ 9223372036854775807) (hb : l.length * bytes ≤ 140737488355328) :
    ∃ A' c' w', (Builtin.append_ #[t, t] ty #[.slice bs 0 0, .slice A l.length c]).run P w = .ok (.slice A' l.length c') w' ∧ CapR A' l.length c' ∧ NewR w' w.heap.size A' k enc l ∧ Below w.heap.size w w' := by
  rcases l with _ | ⟨x, l⟩
  · exact ⟨bs, 0, w, run_app0 t ty e i ht hi bs 0 0 (Nat.le_refl _) A c, ⟨Nat.le_refl _, by unfold maxLen; omega, fun _ => rfl⟩, ⟨RowsR.nil, fun h => absurd rfl h⟩, Below.refl _ _⟩
  · obtain ⟨b, o, rfl, -, -⟩ := hl 0 (by simp)
    have hnews := RowsR.news hk h0 hl
    have hlen : (rowsV enc (x :: l)).length = (x :: l).length * i.size := by rw [hsize]; exact rowsV_len hk _
    have hcap : Builtin.nextslicecap (0 + (x :: l).length) 0 * i.bytes ≤ 281474976710656 := growslice_fits (by simp) (by rw [hby, Nat.zero_add]; exact hb)
    have hcs : ∀ (zc : Array Value) (q : Nat) (v : Value), (rowsV enc (x :: l))[q]? = some v → ((rowsV enc (x :: l)).toArray ++ zc)[q]? = some v := fun zc q v h => by
      rw [Array.getElem?_append_left (by simpa using (List.getElem?_eq_some_iff.1 h).1)]
      simpa using h
    have hrow : ∀ (w' : World) (cs : Array Value) (hw : w'.heap[w.heap.size]? = some (.cells cs e (0, 0))) (hcs : ∀ (q : Nat) (v : Value), (rowsV enc (x :: l))[q]? = some v → cs[q]? = some v), NewR w' w.heap.size (some ⟨w.heap.size, 0, none⟩) k enc (x :: l) := by
      intro w' cs hw hcs
      refine ⟨fun j hj => ⟨w.heap.size, 0, rfl, lt_of_block hw, fun q u hu => ?_⟩, fun _ b o h => by injection h with h; injection h with h1; omega⟩
      have hq : q < k := by rw [← hk (x :: l)[j]]; exact (List.getElem?_eq_some_iff.1 hu).1
      rw [← rowsV_get hk (x :: l) j hj q hq] at hu
      rw [Nat.zero_add]
      exact row_cell hw (hcs _ _ hu)
    cases bs with
    | none =>
      have hr := run_append_nil (P := P) (w := w) t ty e i z ht hi hz ⟨b, o, none⟩ (x :: l).length c (rowsV enc (x :: l)) hlen hnews (by simp) (by omega) (by rw [hby]; omega)
      exact ⟨_, _, _, hr, ⟨grownCap_ge _ _ _ _, grownCap_le_maxLen _ _ _ _ (by unfold maxLen; omega), fun h => (by cases h)⟩, hrow _ _ (heap_alloc_new w.drew _) (hcs _), (Below.refl _ w).drew.alloc (Nat.le_refl _) _⟩
    | some ad =>
      have hr := run_append_grow (P := P) (w := w) t ty e i z ht hi hz ad 0 0 [] (by simp) (by simp) ⟨b, o, none⟩ (x :: l).length c (rowsV enc (x :: l)) hlen hnews (by simp) (by simp only [Nat.zero_add]; omega) hcap
      rw [Nat.zero_add] at hr
      exact ⟨_, _, _, hr, ⟨grownCap_ge _ _ _ _, grownCap_le_maxLen _ _ _ _ (by unfold maxLen; omega), fun h => (by cases h)⟩, hrow _ _ (heap_alloc_new w.drew _) (fun q v h => by rw [show ([] : List Value).toArray ++ (rowsV enc (x :: l)).toArray = (rowsV enc (x :: l)).toArray by simp]; exact hcs _ q v h), (Below.refl _ w).drew.alloc (Nat.le_refl _) _⟩
end
end Go.Proofs.YtbfimfjhdbpenaaGreatDoor
/- Layer 8: TwinEnv. -/
namespace Go.Proofs.YtbfimfjhdbpenaaGreatDoor
open Go Go.RowKit Go.BigFrame
theorem infoFx : (Tryz.prog.info? 44).map (fun i => (i.zero, i.size, i.bytes)) = some (some (.agg #[.string ⟨#[]⟩, .int .i64 0, .string ⟨#[]⟩]), 3, 40) := by kernel_rfl
theorem infoCx : (Tryz.prog.info? 47).map (fun i => (i.zero, i.size, i.bytes)) = some (some (.agg #[.string ⟨#[]⟩, .string ⟨#[]⟩, .int .i64 0, .bool false]), 4, 48) := by kernel_rfl
theorem wpList_appE {α : Type} {enc : α → List Value} {k : Nat} (hk : ∀ x, (enc x).length = k) (h0 : 0 < k) {P : Program} {w : World} {ops : Array Oper} {rest : List Oper} {o : Oper} {a : Act} {Q : Exit → Act → World → Prop} (hgd : o.guard = none) (s x : Operand) (t : TypeId)
    (ho : o.op = .call { callee := .builtin .append, args := #[s, x], argTypes := #[t, t] })
    (e : TypeId) (i : TypeInfo) (z : Value) (bytes : Nat) (ht : P.underlying t = some (.slice e)) (hi : P.info? e = some i) (hz : i.zero = some z) (hsize : i.size = k) (hby : i.bytes = bytes)
    (bs : Option Addr) (hs : a.eval s = .slice bs 0 0) (A : Option Addr) (n c : Nat) (l : List α) (hn : l.length = n) (hx : a.eval x = .slice A n c) (hl : RowsR w A k enc l) (b63 : l.length ≤ 9223372036854775807) (hb : l.length * bytes ≤ 140737488355328)
    (h : ∀ A' c' w', CapR A' n c' → NewR w' w.heap.size A' k enc l → Below w.heap.size w w' → wpList P ops Q rest (a.put o.dst (.slice A' n c')) w') : wpList P ops Q (o :: rest) a w :=
  wpList_plain hgd fun K hK => by
    obtain ⟨A', c', w', hr, hcp, h2, h3⟩ := run_appE (P := P) (w := w) hk h0 t o.type e i z bytes ht hi hz hsize hby bs A c l hl b63 hb
    rw [hn] at hr hcp
    unfold Oper.wp execOp
    simp only [ho, resolve, invoke, builtin, Sem.run_bind, Sem.run_pure, Result.andThen_ok, List.map_toArray, List.map_cons, List.map_nil, hs, hx, hr]
    exact hK _ _ (h A' c' w' hcp h2 h3)
theorem step_appE {α : Type} {enc : α → List Value} {k : Nat} (hk : ∀ x, (enc x).length = k) (h0 : 0 < k) {P : Program} {ops : Array Oper} {o : Oper} {a : Act} {w : World} {K : Act → World → Prop} {Q : Exit → Act → World → Prop} {E : Prop}
    (hg : o.guard = none) (s x : Operand) (t : TypeId) (hop : o.op = Op.call { callee := Callee.builtin Builtin.append, args := #[s, x], argTypes := #[t, t] })
    (e : TypeId) (i : TypeInfo) (z : Value) (bytes : Nat) (ht : P.underlying t = some (.slice e)) (hi : P.info? e = some i) (hz : i.zero = some z) (hsize : i.size = k) (hby : i.bytes = bytes)
    (bs : Option Addr) (hs : a.eval s = .slice bs 0 0) (A : Option Addr) (n c : Nat) (l : List α) (hn : l.length = n) (hx : a.eval x = .slice A n c) (hl : RowsR w A k enc l) (b63 : l.length ≤ 9223372036854775807) (hb : l.length * bytes ≤ 140737488355328)
    (hK : ∀ A' c' w', CapR A' n c' → NewR w' w.heap.size A' k enc l → Below w.heap.size w w' → K (a.put o.dst (.slice A' n c')) w') :
    if Region.wanted o (yielded ops a.tmps) = true then Oper.wp P o a w K Q else E := by
  have hw : Region.wanted o (yielded ops a.tmps) = true := by simp [Region.wanted, hg]
  rw [if_pos hw]
  obtain ⟨A', c', w', hr, hcp, h2, h3⟩ := run_appE (P := P) (w := w) hk h0 t o.type e i z bytes ht hi hz hsize hby bs A c l hl b63 hb
  rw [hn] at hr hcp
  unfold Oper.wp
  simp [execOp, hop, resolve, invoke, builtin, hs, hx, hr, Result.andThen]
  exact hK A' c' w' hcp h2 h3
theorem far2 {w : World} {R q i : Nat} {v1 v2 u : Value} (hne : R ≠ q) (h : w.cell? ⟨q, i, none⟩ = some u) : ((w.setCell ⟨R, 0, none⟩ v1).setCell ⟨R, 1, none⟩ v2).cell? ⟨q, i, none⟩ = some u := by
  rw [World.cell?_setCell_far _ _ _ _ hne, World.cell?_setCell_far _ _ _ _ hne]; exact h
theorem frz2 {w : World} {R q i : Nat} {v1 v2 : Value} (h : w.frozen? ⟨q, i, none⟩ = false) : ((w.setCell ⟨R, 0, none⟩ v1).setCell ⟨R, 1, none⟩ v2).frozen? ⟨q, i, none⟩ = false := by
  rw [World.frozen?_setCell, World.frozen?_setCell]; exact h
theorem bel2 {a w : World} {R : Nat} {v1 v2 : Value} (h : Below R a w) : Below R a ((w.setCell ⟨R, 0, none⟩ v1).setCell ⟨R, 1, none⟩ v2) := (h.setCell (p := ⟨R, 0, none⟩) (Nat.le_refl _) _).setCell (p := ⟨R, 1, none⟩) (Nat.le_refl _) _
structure TwS (q R : Nat) (x0 x1 : Value) (w2 w' : World) : Prop where
  bel : Below R w2 w'
  c0 : w'.cell? ⟨q, 0, none⟩ = some x0
  c1 : w'.cell? ⟨q, 1, none⟩ = some x1
  f0 : w'.frozen? ⟨R, 0, none⟩ = false
  f1 : w'.frozen? ⟨R, 1, none⟩ = false
  lt : R < w'.heap.size
  ne : q < R
section
variable {q R : Nat} {x0 x1 : Value} {w2 w' w'' : World}
theorem TwS.all (h : TwS q R x0 x1 w2 w') : TwS q R x0 x1 w2 w' ∧ w'.cell? ⟨q, 0, none⟩ = some x0 ∧ w'.cell? ⟨q, 1, none⟩ = some x1 := ⟨h, h.c0, h.c1⟩
theorem TwS.to (h : TwS q R x0 x1 w2 w') (hb : Below w'.heap.size w' w'') : TwS q R x0 x1 w2 w'' :=
  ⟨h.bel.trans (hb.mono (Nat.le_of_lt h.lt)), cellO hb h.c0, cellO hb h.c1, (hb.frozen (p := ⟨R, 0, none⟩) h.lt).trans h.f0, (hb.frozen (p := ⟨R, 1, none⟩) h.lt).trans h.f1, Nat.lt_of_lt_of_le h.lt hb.size, h.ne⟩
theorem TwS.drew (h : TwS q R x0 x1 w2 w') : TwS q R x0 x1 w2 w'.drew := h.to (Below.refl _ _).drew
theorem TwS.alloc (h : TwS q R x0 x1 w2 w') (o : Obj) : TwS q R x0 x1 w2 (w'.alloc o) := h.to (belO _ _)
theorem TwS.set2 (h : TwS q R x0 x1 w2 w') (v1 v2 : Value) : TwS q R x0 x1 w2 ((w'.setCell ⟨R, 0, none⟩ v1).setCell ⟨R, 1, none⟩ v2) :=
  ⟨bel2 h.bel, far2 (Nat.ne_of_gt h.ne) h.c0, far2 (Nat.ne_of_gt h.ne) h.c1, frz2 h.f0, frz2 h.f1, by rw [World.size_setCell, World.size_setCell]; exact h.lt, h.ne⟩
end
def EnvR (E : Ev) (w : World) (e : Ending) (w' : World) : Prop := ∃ A c A2 c2, e = .returned (.agg #[.slice A E.fs.length c, .slice A2 E.cs.length c2]) ∧ Ev.In w' ⟨A, E.fs, c, A2, E.cs, c2⟩ ∧ CapR A E.fs.length c ∧ CapR A2 E.cs.length c2 ∧ Below w.heap.size w w'
theorem twin_end {w W2 V : World} {R B5 B6 : Nat} {fA cA A5 A6 : Option Addr} {fs : List Fx} {cs : List Cx} {fc cc c5 c6 : Nat} {t : TypeId} (hR : w.heap.size ≤ R) (hb : Below w.heap.size w W2) (hI : Ev.In W2 ⟨fA, fs, fc, cA, cs, cc⟩) (hr : W2.heap[R]? = some (.cells #[.slice none 0 0, .slice none 0 0] t (0, 0))) (hv : Below W2.heap.size W2 V)
    (q5 : CapR A5 fs.length c5) (q6 : CapR A6 cs.length c6) (n5 : NewR V B5 A5 3 fxC fs) (n6 : NewR V B6 A6 4 cxC cs) (h5 : R < B5) (h6 : R < B6) :
    ((V.setCell ⟨R, 0, none⟩ (.slice A5 fs.length c5)).setCell ⟨R, 1, none⟩ (.slice A6 cs.length c6)).heap[R]? = some (.cells #[.slice A5 fs.length c5, .slice A6 cs.length c6] t (0, 0)) ∧
      EnvR ⟨fA, fs, fc, cA, cs, cc⟩ w (.returned (.agg #[.slice A5 fs.length c5, .slice A6 cs.length c6])) ((V.setCell ⟨R, 0, none⟩ (.slice A5 fs.length c5)).setCell ⟨R, 1, none⟩ (.slice A6 cs.length c6)) := by
  refine ⟨sc2_row (a := .slice none 0 0) (b := .slice none 0 0) ((hv.block R (lt_of_block hr)).trans hr), A5, c5, A6, c6, rfl, ⟨?_, ?_, hI.fl, hI.cl, hI.fb, hI.cb⟩, q5, q6, ?_⟩
  · exact ((n5.set ⟨R, 0, none⟩ h5 _).set ⟨R, 1, none⟩ h5 _).rd
  · exact ((n6.set ⟨R, 0, none⟩ h6 _).set ⟨R, 1, none⟩ h6 _).rd
  · exact ((hb.trans (hv.mono hb.size)).setCell (p := ⟨R, 0, none⟩) hR _).setCell (p := ⟨R, 1, none⟩) hR _
set_option maxRecDepth 100000 in
set_option maxHeartbeats 6400000 in
theorem twinEnv_any (E : Ev) (w : World) (hin : E.In w) (h1 : E.fs.length ≤ 1100) (h2 : E.cs.length ≤ 1100) : Calls Tryz.prog 25 #[E.val] w (EnvR E w) := by
  have mixed : Tryz.prog.follows Departure.mixedOrders = true := by kernel_rfl
  obtain ⟨iF, hiF, hzF, hsF, hbF⟩ := info_parts infoFx
  obtain ⟨iC, hiC, hzC, hsC, hbC⟩ := info_parts infoCx
  obtain ⟨fA, fs, fc, cA, cs, cc⟩ := E
  have HB1 := belO w (.cells #[.slice fA fs.length fc, .slice cA cs.length cc] 38)
  obtain ⟨w1, hw1⟩ : ∃ w1, w.alloc (.cells #[.slice fA fs.length fc, .slice cA cs.length cc] 38) = w1 := ⟨_, rfl⟩
  have a0 : w1.cell? ⟨w.heap.size, 0, none⟩ = some (.slice fA fs.length fc) := by rw [← hw1, World.cell?_alloc_at _ _ _ _ rfl]; rfl
  have a1 : w1.cell? ⟨w.heap.size, 1, none⟩ = some (.slice cA cs.length cc) := by rw [← hw1, World.cell?_alloc_at _ _ _ _ rfl]; rfl
  have hs1 : w1.heap.size = w.heap.size + 1 := by rw [← hw1, World.size_alloc]
  rw [hw1] at HB1
  have HB2 := belO w1 (.cells #[.slice none 0 0, .slice none 0 0] 38)
  obtain ⟨w2, hw2⟩ : ∃ w2, w1.alloc (.cells #[.slice none 0 0, .slice none 0 0] 38) = w2 := ⟨_, rfl⟩
  have hs2 : w1.heap.size < w2.heap.size := by rw [← hw2, World.size_alloc]; omega
  have HSZ := Lib.hid hs2
  have hrow : w2.heap[w1.heap.size]? = some (.cells #[.slice none 0 0, .slice none 0 0] 38 (0, 0)) := by rw [← hw2]; exact heap_alloc_new w1 _
  rw [hw2] at HB2
  have c0 := cellO HB2 a0
  have c1 := cellO HB2 a1
  have HB := Lib.hid (btO HB1 HB2)
  have HI := Lib.hid ((hin.below HB1).below HB2)
  have HR := Lib.hid hrow
  have r0 : w2.cell? ⟨w1.heap.size, 0, none⟩ = some (.slice none 0 0) := row_cell (j := 0) hrow rfl
  have r1 : w2.cell? ⟨w1.heap.size, 1, none⟩ = some (.slice none 0 0) := row_cell (j := 1) hrow rfl
  have q0 := row_frz (j := 0) hrow
  have q1 := row_frz (j := 1) hrow
  have hle : w.heap.size ≤ w1.heap.size := by omega
  have T0 : TwS w.heap.size w1.heap.size (.slice fA fs.length fc) (.slice cA cs.length cc) w2 w2 := ⟨Below.refl _ _, c0, c1, q0, q1, hs2, by omega⟩
  have HF := Lib.hid (fun W (hW : TwS w.heap.size w1.heap.size (.slice fA fs.length fc) (.slice cA cs.length cc) w2 W) => (hin.f.below (HB.out.trans (hW.bel.mono hle)) : RowsR W fA 3 fxC fs))
  have HC := Lib.hid (fun W (hW : TwS w.heap.size w1.heap.size (.slice fA fs.length fc) (.slice cA cs.length cc) w2 W) => (hin.c.below (HB.out.trans (hW.bel.mono hle)) : RowsR W cA 4 cxC cs))
  have HK1 := Lib.hid (show (∀ a, (w2.alloc a).drew.cell? ⟨w1.heap.size, 0, none⟩ = some (.slice none 0 0)) ∧ (∀ a, (w2.alloc a).drew.cell? ⟨w1.heap.size, 1, none⟩ = some (.slice none 0 0)) from ⟨fun a => cellO ((belO w2 a).drew) r0, fun a => cellO ((belO w2 a).drew) r1⟩)
  have HK2 := Lib.hid (show (∀ a b, ((w2.alloc a).alloc b).drew.cell? ⟨w1.heap.size, 0, none⟩ = some (.slice none 0 0)) ∧ (∀ a b, ((w2.alloc a).alloc b).drew.cell? ⟨w1.heap.size, 1, none⟩ = some (.slice none 0 0)) from ⟨fun a b => cellO ((btO (belO w2 a) (belO _ b)).drew) r0, fun a b => cellO ((btO (belO w2 a) (belO _ b)).drew) r1⟩)
  have hf1 : fs.length ≤ 1100 := h1
  have hc1 : cs.length ≤ 1100 := h2
  have HFL := Lib.hid (show fs.length ≤ 9223372036854775807 ∧ fs.length * 40 ≤ 140737488355328 by omega)
  have HCL := Lib.hid (show cs.length ≤ 9223372036854775807 ∧ cs.length * 48 ≤ 140737488355328 by omega)
  show Calls Tryz.prog 25 #[.agg #[.slice fA fs.length fc, .slice cA cs.length cc]] w _
  clear hin h1 h2 hle HB1 HB2 a0 a1 hf1 hc1 hs1 hs2 hrow r0 r1 q0 q1
  go_enter Tryz.func25, Tryz.ntmps25
  go_wp2_with (fail)
  clear hw1 hw2
  go_region_held3 (fun w' => TwS w.heap.size w1.heap.size (.slice fA fs.length fc) (.slice cA cs.length cc) w2 w' ∧ w'.cell? ⟨w.heap.size, 0, none⟩ = some (.slice fA fs.length fc) ∧ w'.cell? ⟨w.heap.size, 1, none⟩ = some (.slice cA cs.length cc))
    (((try go_split_ands); refine TwS.all ?_; first
      | assumption | exact T0.drew | exact (T0.alloc _).drew | exact ((T0.alloc _).alloc _).drew | exact TwS.alloc (by assumption) _ | exact TwS.set2 (by assumption) _ _))
    (first
      | (go_split_ands; refine step_appE (enc := fxC) (k := 3) fxC_len (by decide) rfl _ _ 35 rfl 44 iF _ 40 Tryz.underlying35 hiF hzF hsF hbF _ rfl fA fs.length fc fs rfl rfl (HF.out _ (by assumption)) HFL.out.1 HFL.out.2 ?_; intro A5 c5 w5 hp5 hn5 hb5; have C5 := Lib.hid hp5; clear hp5
         have T5 : TwS w.heap.size w1.heap.size (.slice fA fs.length fc) (.slice cA cs.length cc) w2 w5 := TwS.to (by assumption) hb5
         have t5 : w1.heap.size < _ := TwS.lt (by assumption)
         have k0 : w5.cell? ⟨w1.heap.size, 0, none⟩ = some (.slice none 0 0) := (hb5.cell (p := ⟨w1.heap.size, 0, none⟩) (TwS.lt (by assumption))).trans (by first | assumption | exact HK1.out.1 _ | exact HK2.out.1 _ _ | exact (World.cell?_alloc_past _ _ _ (TwS.lt (by assumption))).trans (by assumption))
         have k1 : w5.cell? ⟨w1.heap.size, 1, none⟩ = some (.slice none 0 0) := (hb5.cell (p := ⟨w1.heap.size, 1, none⟩) (TwS.lt (by assumption))).trans (by first | assumption | exact HK1.out.2 _ | exact HK2.out.2 _ _ | exact (World.cell?_alloc_past _ _ _ (TwS.lt (by assumption))).trans (by assumption))
         have l0 := T5.f0
         have l1 := T5.f1
         have N5 := Lib.hid hn5
         have M5 := Lib.hid hb5
         clear hn5 t5)
      | (go_split_ands; refine step_appE (enc := cxC) (k := 4) cxC_len (by decide) rfl _ _ 36 rfl 47 iC _ 48 Tryz.underlying36 hiC hzC hsC hbC _ rfl cA cs.length cc cs rfl rfl (HC.out _ (by assumption)) HCL.out.1 HCL.out.2 ?_; intro A6 c6 w6 hp6 hn6 hb6; have C6 := Lib.hid hp6; clear hp6
         have T6 : TwS w.heap.size w1.heap.size (.slice fA fs.length fc) (.slice cA cs.length cc) w2 w6 := TwS.to (by assumption) hb6
         have t6 : w1.heap.size < _ := TwS.lt (by assumption)
         have k0 : w6.cell? ⟨w1.heap.size, 0, none⟩ = some (.slice none 0 0) := (hb6.cell (p := ⟨w1.heap.size, 0, none⟩) (TwS.lt (by assumption))).trans (by first | assumption | exact HK1.out.1 _ | exact HK2.out.1 _ _ | exact (World.cell?_alloc_past _ _ _ (TwS.lt (by assumption))).trans (by assumption))
         have k1 : w6.cell? ⟨w1.heap.size, 1, none⟩ = some (.slice none 0 0) := (hb6.cell (p := ⟨w1.heap.size, 1, none⟩) (TwS.lt (by assumption))).trans (by first | assumption | exact HK1.out.2 _ | exact HK2.out.2 _ _ | exact (World.cell?_alloc_past _ _ _ (TwS.lt (by assumption))).trans (by assumption))
         have l0 := T6.f0
         have l1 := T6.f1
         have N6 := Lib.hid hn6
         have M6 := Lib.hid hb6
         clear hn6 t6))
  all_goals go_wp2_with (fail)
  all_goals (
    have b5 : Below w2.heap.size w2 w5 := by first | exact btO (belO _ _).drew hb5 | exact btO (btO (belO _ _) (belO _ _)).drew hb5
    have b6 : Below w5.heap.size w5 w6 := by first | exact hb6 | exact btO (belO _ _) hb6
    have E := twin_end (c5 := c5) (c6 := c6) (Nat.le_of_lt T0.ne) HB.out HI.out HR.out (btO b5 b6) C5.out C6.out (N5.out.below b6) N6.out (TwS.lt (by assumption)) (TwS.lt (by assumption))
    refine bodyPost_ret (results_cell_row rfl _ _ w1.heap.size 38 _ (0, 0) _ rfl E.1 Tryz.underlying38 (by kernel_rfl) (by kernel_rfl)) rfl E.2)
end Go.Proofs.YtbfimfjhdbpenaaGreatDoor
/- Layer 8: Put of the reference. -/
namespace Go.Proofs.YtbfimfjhdbpenaaGreatDoor
open Go Go.RowKit Go.BigFrame
theorem wpList_appR {P : Program} {ops : Array Oper} {rest : List Oper} {o : Oper} {a : Act} {Q : Exit → Act → World → Prop} {w : World} {base : Nat} {e : TypeId} {k : Nat} {v : Value} {n : Nat} {xs : List Value} (hown : w.ownsRow base e k v n xs) (h0 : 0 < k) (x : List Value) (hk : x.length = k) (hgd : o.guard = none) (s y : Operand) (t : TypeId)
    (ho : o.op = .call { callee := .builtin .append, args := #[s, y], argTypes := #[t, t] })
    (i : TypeInfo) (z : Value) (bytes : Nat) (ht : P.underlying t = some (.slice e)) (hi : P.info? e = some i) (hz : i.zero = some z)
    (hsize : i.size = k) (hby : i.bytes = bytes) (hzs : z.cells.size = k)
    (hs : a.eval s = v) (hx : a.eval y = .slice (some ⟨w.heap.size, 0, none⟩) 1 1) (h1 : ∀ u ∈ x, u.oneCell' = true) (h63 : n + 1 ≤ maxLen) (hbytes : (n + 1) * bytes ≤ 140737488355328) (hbase : base ≤ w.heap.size)
    (h : ∀ v' w', w'.ownsRow base e k v' (n + 1) (xs ++ x) → (w.alloc (.cells x.toArray e)).grownBy w' v.ownBlock → wpList P ops Q rest (a.put o.dst v') w') : wpList P ops Q (o :: rest) a (w.alloc (.cells x.toArray e)) := by
  refine wpList_append_own (w.alloc (.cells x.toArray e)) hgd s y t ho base e i z k bytes ht hi hz hsize hby hzs h0 v n xs hs (hown.alloc _) ⟨w.heap.size, 0, none⟩ 1 1 x hx (by rw [hk, Nat.one_mul]) ?_ h1 h63 hbytes (by simp; omega) ?_
  · intro j u hj
    rw [add_off]
    exact row_cell (heap_alloc_new w _) (by rw [Nat.zero_add, List.getElem?_toArray]; exact hj)
  · intro v' w' h2 h3 _
    exact h v' w' h2 h3
structure PuB (q0 q1 q2 : Nat) (x0 x1 y0 y1 y2 : Value) (W : World) : Prop where
  e0 : W.cell? ⟨q0, 0, none⟩ = some x0
  e1 : W.cell? ⟨q0, 1, none⟩ = some x1
  f0 : W.cell? ⟨q1, 0, none⟩ = some y0
  f1 : W.cell? ⟨q1, 1, none⟩ = some y1
  f2 : W.cell? ⟨q1, 2, none⟩ = some y2
  r0 : W.cell? ⟨q2, 0, none⟩ = some (.slice none 0 0)
  r1 : W.cell? ⟨q2, 1, none⟩ = some (.slice none 0 0)
theorem PuB.below {q0 q1 q2 : Nat} {x0 x1 y0 y1 y2 : Value} {W W' : World} (h : PuB q0 q1 q2 x0 x1 y0 y1 y2 W) (hb : Below W.heap.size W W') : PuB q0 q1 q2 x0 x1 y0 y1 y2 W' := ⟨cellO hb h.e0, cellO hb h.e1, cellO hb h.f0, cellO hb h.f1, cellO hb h.f2, cellO hb h.r0, cellO hb h.r1⟩
def PutR (L : List Fx) (C : List Cx) (e : Int) (w : World) (x : Ending) (w' : World) : Prop := ∃ A c A2 c2, x = .returned (.tuple #[.agg #[.slice A L.length c, .slice A2 C.length c2], .int .i64 e]) ∧ Ev.In w' ⟨A, L, c, A2, C, c2⟩ ∧ Below w.heap.size w w'
theorem putR_nil {e : Int} {w w' : World} (h : Below w.heap.size w w') : PutR [] [] e w (.returned (.tuple #[.agg #[.slice none 0 0, .slice none 0 0], .int .i64 e])) w' :=
  ⟨none, 0, none, 0, rfl, ⟨RowsR.nil, RowsR.nil, by simp, by simp, by simp, by simp⟩, h⟩
theorem own_setO {w : World} {base : Nat} {e : TypeId} {size : Nat} {v : Value} {n : Nat} {xs : List Value} (h : w.ownsRow base e size v n xs) {p : Addr} (hp : p.block < base) (u : Value) : (w.setCell p u).ownsRow base e size v n xs := by
  refine ⟨h.1, ?_⟩
  rcases h.2 with h0 | ⟨g, cap, cur, hv, hg, hh, r⟩
  · exact .inl h0
  · exact .inr ⟨g, cap, cur, hv, hg, (Below.heap_setCell w p u g (by omega)).trans hh, r⟩
theorem heap_set2O {w : World} {b : Nat} {x y : Value} {t : TypeId} (h : w.heap[b]? = some (.cells #[x, y] t (0, 0))) (u v : Value) :
    ((w.setCell ⟨b, 0, none⟩ u).setCell ⟨b, 1, none⟩ v).heap[b]? = some (.cells #[u, v] t (0, 0)) := sc2_row h
theorem results_row_tmpO {P : Program} {fn : Func} {p q : Tmp} {ty : TypeId} (h : fn.results = #[.cell p ty, .tmp q]) (tmps : Array Value) (w : World) (g : Nat) (t : TypeId) (cs : Array Value) (fr : Nat × Nat) (d : TypeDesc) (u : Value) (hq : tmps.getD q undef = u)
    (hp : tmps.getD p undef = .pointer (some ⟨g, 0, none⟩)) (hg : w.heap[g]? = some (.cells cs t fr))
    (hu : P.underlying ty = some d) (hd : (match d with | .struct _ | .array _ _ => true | _ => false) = true) (hi : (P.info? ty).map (·.size) = some cs.size) :
    (results fn tmps).run P w = .ok (.tuple #[.agg cs, u]) w := by
  subst hq
  have hp' : tmps[p]?.getD undef = .pointer (some ⟨g, 0, none⟩) := by simpa using hp
  simp [results, h, hp', asAddr, run_loadVar_row w g t ty cs fr d hg hu hd hi]
theorem rfL_mem {α : Type} (key : α → Key) (x y : α) (l : List α) : ∀ pb, y ∈ rfL key x pb l → y = x ∨ y ∈ l := by
  induction l with
  | nil =>
    intro pb h
    cases pb
    · left; simpa [rfL] using h
    · simp [rfL] at h
  | cons z l ih =>
    intro pb h
    rw [rfL, List.mem_append, List.mem_append] at h
    rcases h with h | h | h
    · split at h
      · left; simpa using h
      · simp at h
    · split at h
      · simp at h
      · right; rw [List.mem_singleton] at h; rw [h]; exact List.mem_cons_self ..
    · rcases ih _ h with h | h
      · exact .inl h
      · exact .inr (List.mem_cons_of_mem _ h)
theorem fx_key_eq (n v : ByteArray) (d : Int) (x : Fx) : x.key = Fx.key (n, d, v) ↔ fxP n d x = true := by
  unfold fxP Fx.key
  rw [decide_eq_true_eq]
  constructor
  · intro h
    injection h with _ h
    injection h with h1 h2
    refine ⟨?_, h2⟩
    cases hx : x.1; cases n
    rw [hx] at h1
    exact congrArg ByteArray.mk (Array.toList_inj.1 h1)
  · rintro ⟨rfl, rfl⟩; rfl
theorem rf_step {n v : ByteArray} {d : Int} {fs L P : List Fx} {pb : Bool} {k : Nat} (hk : k < fs.length) (h : P ++ rfL Fx.key (n, d, v) pb (fs.drop k) = L) :
    (P ++ ((if (!pb && !ltK fs[k].key (Fx.key (n, d, v))) = true then [(n, d, v)] else []) ++ (if fxP n d fs[k] = true then [] else [fs[k]]))) ++ rfL Fx.key (n, d, v) (pb || !ltK fs[k].key (Fx.key (n, d, v))) (fs.drop (k + 1)) = L := by
  rw [List.drop_eq_getElem_cons hk, rfL] at h
  rw [← h, List.append_assoc, List.append_assoc]
  congr 2
  simp only [fx_key_eq]
structure PuL (w7 : World) (vC : Value) (wr : World) (A : Option Addr) (m c : Nat) (P : List Fx) : Prop where
  B : Below w7.heap.size w7 wr
  o : wr.heap[w7.heap.size]? = some (.cells #[.slice A m c, vC] 38 (0, 0))
  own : wr.ownsRow (w7.heap.size + 1) 44 3 (.slice A m c) m (rowsV fxC P)
theorem PuL.to {w7 : World} {vC : Value} {wr wr' : World} {A : Option Addr} {m c : Nat} {P : List Fx} (h : PuL w7 vC wr A m c P) (hb : Below wr.heap.size wr wr') : PuL w7 vC wr' A m c P :=
  ⟨h.B.trans (hb.mono (Nat.le_of_lt (lt_of_block h.o))), (hb.block _ (lt_of_block h.o)).trans h.o, own_belO h.own hb⟩
theorem PuL.start (w7 : World) (vC : Value) : PuL w7 vC (w7.alloc (.cells #[.slice none 0 0, vC] 38)) none 0 0 [] :=
  ⟨belO _ _, heap_alloc_new w7 _, World.ownsRow_nil _ _ _ _⟩
theorem PuL.app {w7 : World} {vC : Value} {wr wy w' : World} {A A' : Option Addr} {m c c' : Nat} {P : List Fx} {x : Fx} {o : Obj} (h : PuL w7 vC wr A m c P) (hby : Below wr.heap.size wr wy) (hg : (wy.alloc o).grownBy w' (Value.slice A m c).ownBlock)
    (hown : w'.ownsRow (w7.heap.size + 1) 44 3 (.slice A' (m + 1) c') (m + 1) (rowsV fxC P ++ fxC x)) :
    PuL w7 vC (w'.setCell ⟨w7.heap.size, 0, none⟩ (.slice A' (m + 1) c')) A' (m + 1) c' (P ++ [x]) ∧ (∀ p u, wr.heap.size ≤ p.block → wy.cell? p = some u → (w'.setCell ⟨w7.heap.size, 0, none⟩ (.slice A' (m + 1) c')).cell? p = some u) ∧ w'.heap[w7.heap.size]? = some (.cells #[.slice A m c, vC] 38 (0, 0)) := by
  have h7 : w7.heap.size < wr.heap.size := lt_of_block h.o
  have hlt := h.own.lt
  have hsz : wy.heap.size < (wy.alloc o).heap.size := by rw [World.size_alloc]; omega
  have hy := hby.size
  have hblk : ∀ k, k ≤ w7.heap.size → w'.heap[k]? = wr.heap[k]? := fun k hk => by
    rw [hg.block k (by omega) (fun e => by have := hlt k e.symm; omega)]
    exact ((belO wy o).block k (by omega)).trans (hby.block k (by omega))
  refine ⟨⟨?_, ?_, ?_⟩, ?_, (hblk _ (Nat.le_refl _)).trans h.o⟩
  · refine Below.setCell (p := ⟨w7.heap.size, 0, none⟩) ?_ (Nat.le_refl _) _
    have h1 : Below w7.heap.size w7 (wy.alloc o) := (h.B.trans (hby.mono (by omega))).trans ((belO wy o).mono (by omega))
    exact h1.grown hg (by omega) (fun k hk => by have := hlt k hk; omega)
  · have h2 : w'.heap[w7.heap.size]? = some (.cells #[.slice A m c, vC] 38 (0, 0)) := (hblk _ (Nat.le_refl _)).trans h.o
    exact heap_setCell_same w' w7.heap.size 0 _ _ _ h2
  · rw [rowsV_snoc]
    exact own_setO hown (Nat.lt_succ_self _) _
  · intro p u hp hu
    rw [World.cell?_setCell_far _ _ _ _ (by show w7.heap.size ≠ p.block; omega)]
    exact hg.cell ((cellO (belO wy o) hu)) (fun e => by have := hlt _ e.symm; omega)
theorem put_end {w w3 w7 W : World} {r B : Nat} {fA cA A A7 : Option Addr} {fs L P : List Fx} {cs : List Cx} {fc cc m c c7 : Nat} {n v : ByteArray} {d : Int} (S : PuL w7 (.slice A7 cs.length c7) W A m c P) (hb : Below w.heap.size w w3) (m7 : Below w3.heap.size w3 w7) (hI : Ev.In w3 ⟨fA, fs, fc, cA, cs, cc⟩)
    (hr : w3.heap[r]? = some (.cells #[.slice none 0 0, .slice none 0 0] 38 (0, 0))) (n7 : NewR w7 B A7 4 cxC cs) (h0 : w.heap.size ≤ r) (hB : r < B) (h7 : r < w7.heap.size) (hP : P = L) {m' : Nat} (hm : L.length = m') (hl : L.length ≤ 1000) (hn : n.size ≤ 140737488351232) (hv : v.size ≤ 140737488351232) (hL : rfL Fx.key (n, d, v) false fs = L) (hmm : m = m' := by rfl) :
    ((W.setCell ⟨r, 0, none⟩ (.slice A m c)).setCell ⟨r, 1, none⟩ (.slice A7 cs.length c7)).heap[r]? = some (.cells #[.slice A m c, .slice A7 cs.length c7] 38 (0, 0)) ∧
      PutR L cs 0 w (.returned (.tuple #[.agg #[.slice A m c, .slice A7 cs.length c7], .int .i64 0])) ((W.setCell ⟨r, 0, none⟩ (.slice A m c)).setCell ⟨r, 1, none⟩ (.slice A7 cs.length c7)) := by
  subst hP hmm hm
  have hbW : Below w3.heap.size w3 W := btO m7 S.B
  refine ⟨heap_set2O ((hbW.block _ (lt_of_block hr)).trans hr) _ _, A, c, A7, c7, rfl, ⟨?_, ?_, ?_, hI.cl, ?_, hI.cb⟩, ?_⟩
  · have h1 := own_setO (own_setO S.own (p := ⟨r, 0, none⟩) (by show r < w7.heap.size + 1; omega) (.slice A P.length c)) (p := ⟨r, 1, none⟩) (by show r < w7.heap.size + 1; omega) (.slice A7 cs.length c7)
    obtain ⟨A', c', e, -, h2, -⟩ := RowsR.of_own fxC_len (by decide) h1
    injection e with e1 e2 e3
    subst e1
    exact h2
  · exact (((n7.below S.B).set ⟨r, 0, none⟩ hB _).set ⟨r, 1, none⟩ hB _).rd
  · show P.length ≤ _; omega
  · intro f hf
    rw [← hL] at hf
    rcases rfL_mem _ _ _ _ _ hf with h | h
    · rw [h]; exact ⟨hn, hv⟩
    · exact hI.fb f h
  · exact ((hb.trans (hbW.mono hb.size)).setCell (p := ⟨r, 0, none⟩) h0 _).setCell (p := ⟨r, 1, none⟩) h0 _
theorem put_full {w w3 w7 W : World} {r : Nat} {A : Option Addr} {P : List Fx} {m c : Nat} {vC : Value} (S : PuL w7 vC W A m c P) (hb : Below w.heap.size w w3) (m7 : Below w3.heap.size w3 w7)
    (hr : w3.heap[r]? = some (.cells #[.slice none 0 0, .slice none 0 0] 38 (0, 0))) (h0 : w.heap.size ≤ r) :
    ((W.setCell ⟨r, 0, none⟩ (.slice none 0 0)).setCell ⟨r, 1, none⟩ (.slice none 0 0)).heap[r]? = some (.cells #[.slice none 0 0, .slice none 0 0] 38 (0, 0)) ∧
      PutR [] [] 22 w (.returned (.tuple #[.agg #[.slice none 0 0, .slice none 0 0], .int .i64 22])) ((W.setCell ⟨r, 0, none⟩ (.slice none 0 0)).setCell ⟨r, 1, none⟩ (.slice none 0 0)) := by
  have hbW : Below w3.heap.size w3 W := btO m7 S.B
  exact ⟨heap_set2O ((hbW.block _ (lt_of_block hr)).trans hr) _ _, putR_nil (((hb.trans (hbW.mono hb.size)).setCell (p := ⟨r, 0, none⟩) h0 _).setCell (p := ⟨r, 1, none⟩) h0 _)⟩
set_option maxRecDepth 100000 in
set_option maxHeartbeats 6400000 in
theorem rput_main (E : Ev) (n v : ByteArray) (d : Int) (w : World) (hin : E.In w) (hl1 : E.fs.length ≤ 1000) (hl2 : E.cs.length ≤ 1000) (hE : ∀ W, Below w.heap.size w W → Calls Tryz.prog 30 #[E.val] W (IntRO 0 W))
    (hN : nameO n.data.toList = true) (hD : dayO d = true) (hC : ∀ W, Calls Tryz.prog 65 #[.string v] W (IntB 0 W)) (L : List Fx) (hL : rfL Fx.key (n, d, v) false E.fs = L) (hn : n.size ≤ 140737488351232) (hv : v.size ≤ 140737488351232)
    (RL : List Fx) (RC : List Cx) (re : Int) (hres : (L.length ≤ 1000 ∧ RL = L ∧ RC = E.cs ∧ re = 0) ∨ (1000 < L.length ∧ RL = [] ∧ RC = [] ∧ re = 22)) :
    Calls Tryz.prog 26 #[E.val, .agg #[.string n, .int .i64 d, .string v]] w (PutR RL RC re w) := by
  obtain ⟨iF, hiF, hzF, hsF, hbF⟩ := info_parts infoFx
  obtain ⟨iC, hiC, hzC, hsC, hbC⟩ := info_parts infoCx
  obtain ⟨fA, fs, fc, cA, cs, cc⟩ := E
  have HB1 := belO w (.cells #[.slice fA fs.length fc, .slice cA cs.length cc] 38)
  obtain ⟨w1, hw1⟩ : ∃ w1, w.alloc (.cells #[.slice fA fs.length fc, .slice cA cs.length cc] 38) = w1 := ⟨_, rfl⟩
  have a0 : w1.cell? ⟨w.heap.size, 0, none⟩ = some (.slice fA fs.length fc) := by rw [← hw1, World.cell?_alloc_at _ _ _ _ rfl]; rfl
  have a1 : w1.cell? ⟨w.heap.size, 1, none⟩ = some (.slice cA cs.length cc) := by rw [← hw1, World.cell?_alloc_at _ _ _ _ rfl]; rfl
  have hs1 : w1.heap.size = w.heap.size + 1 := by rw [← hw1, World.size_alloc]
  rw [hw1] at HB1
  have HB2 := belO w1 (.cells #[.string n, .int .i64 d, .string v] 44)
  obtain ⟨w2, hw2⟩ : ∃ w2, w1.alloc (.cells #[.string n, .int .i64 d, .string v] 44) = w2 := ⟨_, rfl⟩
  have b0 : w2.cell? ⟨w1.heap.size, 0, none⟩ = some (.string n) := by rw [← hw2, World.cell?_alloc_at _ _ _ _ rfl]; rfl
  have b1 : w2.cell? ⟨w1.heap.size, 1, none⟩ = some (.int .i64 d) := by rw [← hw2, World.cell?_alloc_at _ _ _ _ rfl]; rfl
  have b2 : w2.cell? ⟨w1.heap.size, 2, none⟩ = some (.string v) := by rw [← hw2, World.cell?_alloc_at _ _ _ _ rfl]; rfl
  have hs2 : w2.heap.size = w1.heap.size + 1 := by rw [← hw2, World.size_alloc]
  rw [hw2] at HB2
  have HB3 := belO w2 (.cells #[.slice none 0 0, .slice none 0 0] 38)
  obtain ⟨w3, hw3⟩ : ∃ w3, w2.alloc (.cells #[.slice none 0 0, .slice none 0 0] 38) = w3 := ⟨_, rfl⟩
  have hrow : w3.heap[w2.heap.size]? = some (.cells #[.slice none 0 0, .slice none 0 0] 38 (0, 0)) := by rw [← hw3]; exact heap_alloc_new w2 _
  have hs3 : w3.heap.size = w2.heap.size + 1 := by rw [← hw3, World.size_alloc]
  rw [hw3] at HB3
  have P3 := Lib.hid (show PuB w.heap.size w1.heap.size w2.heap.size (.slice fA fs.length fc) (.slice cA cs.length cc) (.string n) (.int .i64 d) (.string v) w3 from ⟨cellO (btO HB2 HB3) a0, cellO (btO HB2 HB3) a1, cellO HB3 b0, cellO HB3 b1, cellO HB3 b2, row_cell (j := 0) hrow rfl, row_cell (j := 1) hrow rfl⟩)
  have HB := Lib.hid (btO HB1 (btO HB2 HB3))
  have HI := Lib.hid ((hin.below HB1).below (btO HB2 HB3))
  have HR := Lib.hid hrow
  have HE := Lib.hid hE
  have HN := Lib.hid (fun W => rname8_any n true hN W)
  have HD := Lib.hid (fun W => show Calls Tryz.prog 64 #[.int .i64 d] W fun e w' => e = .returned (.bool true) ∧ W = w' by rw [← hD]; exact rday_any d W)
  have HC := Lib.hid hC
  have HSZ := Lib.hid (show w.heap.size < w1.heap.size ∧ w1.heap.size < w2.heap.size ∧ w2.heap.size < w3.heap.size by omega)
  have HFL := Lib.hid (show fs.length ≤ 1000 ∧ cs.length ≤ 1000 from ⟨hl1, hl2⟩)
  have HLL := Lib.hid hL
  have HRS := Lib.hid (show (L.length ≤ 1000 ∧ RL = L ∧ RC = cs ∧ re = 0) ∨ (1000 < L.length ∧ RL = [] ∧ RC = [] ∧ re = 22) from hres)
  have HCL := Lib.hid (show cs.length ≤ 9223372036854775807 ∧ cs.length * 48 ≤ 140737488355328 by have : cs.length ≤ 1000 := hl2; omega)
  show Calls Tryz.prog 26 #[.agg #[.slice fA fs.length fc, .slice cA cs.length cc], .agg #[.string n, .int .i64 d, .string v]] w _
  clear hin hE hN hD hC hL hres HB1 HB2 HB3 a0 a1 b0 b1 b2 hrow hs1 hs2 hs3 hl1 hl2
  obtain ⟨e0, e1, f0, f1, f2, r0, r1⟩ := P3.out
  go_enter Tryz.func26, Tryz.ntmps26
  go_wp2_with (first
    | (go_at_call 30; ((with_reducible refine (HE.out _ HB.out).mono ?_); rintro x w4 ⟨rfl, hb⟩; have M4 := Lib.hid hb; clear e0 e1 f0 f1 f2 r0 r1; obtain ⟨e0, e1, f0, f1, f2, r0, r1⟩ := P3.out.below hb; clear hb))
    | (go_at_call 63; ((with_reducible refine (HN.out _).mono ?_); rintro x w5 ⟨rfl, rfl⟩))
    | (go_at_call 64; ((with_reducible refine (HD.out _).mono ?_); rintro x w5 ⟨rfl, rfl⟩))
    | (go_at_call 65; ((with_reducible refine (HC.out _).mono ?_); rintro x w6 ⟨rfl, hb⟩; have M6 := Lib.hid (btO M4.out hb); clear e0 e1 f0 f1 f2 r0 r1; obtain ⟨e0, e1, f0, f1, f2, r0, r1⟩ := P3.out.below M6.out; have g1 := fun o => cellO (belO w6 o) e1; clear hb))
    | (at_builtin; refine wpList_appE (enc := cxC) (k := 4) cxC_len (by decide) rfl _ _ 36 rfl 47 iC _ 48 Tryz.underlying36 hiC hzC hsC hbC _ rfl cA cs.length cc cs rfl rfl (HI.out.c.below (btO M6.out (belO _ _))) HCL.out.1 HCL.out.2 ?_; intro A7 c7 w7 hp7 hn7 hb7; clear hp7; have M7 := Lib.hid (btO M6.out (btO (belO _ _) hb7)); have N7 := Lib.hid hn7; clear g1 e0 e1 f0 f1 f2 r0 r1; obtain ⟨e0, e1, f0, f1, f2, r0, r1⟩ := P3.out.below M7.out; clear hn7 hb7))
  clear hw1 hw2 hw3 e0 e1 f0 f1 f2 r0 r1
  have h37 := M7.out.size
  go_loopw [7, 8] (fun p i wr => ∃ (k m : Nat) (A : Option Addr) (c : Nat) (P : List Fx) (pb : Bool), k ≤ fs.length ∧ m ≤ 2 * k ∧ p = .bool pb ∧ i = .int .i64 k ∧ Hid (P ++ rfL Fx.key (n, d, v) pb (fs.drop k) = L ∧ m = P.length) ∧ Hid (PuL w7 (.slice A7 cs.length c7) wr A m c P)) (fun _ i _ => fs.length - (intOf i).toNat)
  case atStart => exact ⟨0, 0, none, 0, [], false, by omega, by omega, rfl, rfl, ⟨HLL.out, rfl⟩, PuL.start _ _⟩
  case round =>
    obtain ⟨k, m, A, c, P, pb, hk, hm, rfl, rfl, HJ, HS⟩ := hrel
    have HP := Lib.hid (P3.out.below (btO M7.out HS.out.B))
    have h7r : w7.heap.size < wr.heap.size := lt_of_block HS.out.o
    have hfl := HFL.out.1
    have HM := Lib.hid HJ.out.2
    have e0 := HP.out.e0
    by_cases hlt : k < fs.length
    · obtain ⟨bb, o, eA, -, d0, d1, d2⟩ := (HI.out.below (btO M7.out HS.out.B)).f.fx hlt
      simp only at eA d0 d1 d2
      subst eA
      have HT := Lib.hid (rf_step hlt HJ.out.1)
      have hc := fxP_cases n d fs[k]
      have hk1 : (k : Int) < (fs.length : Int) := by omega
      generalize fs[k] = x at *
      obtain ⟨xn, xd, xv⟩ := x
      simp only at d0 d1 d2 hc
      obtain ⟨wx, hwx⟩ : ∃ wx, wr.alloc (.cells #[.string xn, .int .i64 xd, .string xv] 44) = wx := ⟨_, rfl⟩
      have bx : Below wr.heap.size wr wx := by rw [← hwx]; exact belO _ _
      have c0 : wx.cell? ⟨wr.heap.size, 0, none⟩ = some (.string xn) := by rw [← hwx, World.cell?_alloc_at _ _ _ _ rfl]; rfl
      have c1 : wx.cell? ⟨wr.heap.size, 1, none⟩ = some (.int .i64 xd) := by rw [← hwx, World.cell?_alloc_at _ _ _ _ rfl]; rfl
      have c2 : wx.cell? ⟨wr.heap.size, 2, none⟩ = some (.string xv) := by rw [← hwx, World.cell?_alloc_at _ _ _ _ rfl]; rfl
      have BX := Lib.hid bx
      have f0 := (HP.out.below bx).f0
      have f1 := (HP.out.below bx).f1
      have f2 := (HP.out.below bx).f2
      have ox : wx.cell? ⟨w7.heap.size, 0, none⟩ = some (.slice A m c) := row_cell (j := 0) (HS.out.to bx).o rfl
      obtain ⟨b, hb⟩ : ∃ b, ltK (Fx.key (xn, xd, xv)) (Fx.key (n, d, v)) = b := ⟨_, rfl⟩
      have HFB := Lib.hid (fun W => show Calls Tryz.prog 66 #[.agg #[.string xn, .int .i64 xd, .string xv], .agg #[.string n, .int .i64 d, .string v]] W (BoolRO b W) by rw [← hb]; exact fixBefore_any xn xv n v xd d W)
      rw [hb] at HT
      clear hb bx HJ
      cases pb
      · cases b
        · rcases hc with ⟨h1, h2, hq⟩ | ⟨hq, hc⟩
          · have HQ := Lib.hid (show (P ++ [(n, d, v)]) ++ rfL Fx.key (n, d, v) true (fs.drop (k + 1)) = L by have h := HT.out; rw [hq] at h; simpa [List.append_assoc] using h)
            clear HT hq
            obtain rfl := h1.symm
            obtain rfl := h2.symm
            clear h1 h2
            go_wp2_with (first
              | (go_at_call 66; ((with_reducible refine (HFB.out _).mono ?_); rintro x wy ⟨rfl, hb⟩; have BY := Lib.hid (btO BX.out hb); have cy0 := cellO hb c0; have cy1 := cellO hb c1; have cy2 := cellO hb c2; have fy0 := cellO hb f0; have fy1 := cellO hb f1; have fy2 := cellO hb f2; have oy := cellO hb ox; clear hb))
              | (at_builtin; refine wpList_appR (PuL.to HS.out BY.out).own (by decide) [.string n, .int .i64 d, .string v] rfl rfl _ _ 35 rfl iF _ 40 Tryz.underlying35 hiF hzF hsF hbF rfl rfl rfl (fxC_one (n, d, v)) (by unfold maxLen; omega) (by omega) (Nat.succ_le_of_lt (lt_of_block (PuL.to HS.out BY.out).o)) ?_; intro v' w8 hown hg; obtain ⟨A8, c8, rfl, -, -, -, -, -, -⟩ := RowsR.of_own (l := P ++ [(n, d, v)]) fxC_len (by decide) (by rw [rowsV_snoc]; exact hown); obtain ⟨hP, hcell, hblk⟩ := PuL.app (x := (n, d, v)) HS.out BY.out hg hown; have o8 : w8.cell? ⟨w7.heap.size, 0, none⟩ = some (.slice A _ c) := row_cell (j := 0) hblk rfl; have z8 : w8.frozen? ⟨w7.heap.size, 0, none⟩ = false := row_frz (j := 0) hblk; obtain ⟨w9, hw9⟩ : ∃ w9, w8.setCell ⟨w7.heap.size, 0, none⟩ (.slice A8 (m + 1) c8) = w9 := ⟨_, rfl⟩; rw [hw9] at hP hcell; have S9 := Lib.hid hP; have c90 := hcell ⟨wr.heap.size, 0, none⟩ _ (Nat.le_refl _) cy0; have c91 := hcell ⟨wr.heap.size, 1, none⟩ _ (Nat.le_refl _) cy1; have c92 := hcell ⟨wr.heap.size, 2, none⟩ _ (Nat.le_refl _) cy2; have P9 := P3.out.below (btO M7.out hP.B); have f90 := P9.f0; have f91 := P9.f1; have f92 := P9.f2; have o9 : w9.cell? ⟨w7.heap.size, 0, none⟩ = some (.slice A8 (m + 1) c8) := row_cell (j := 0) hP.o rfl; clear hown hg hP hcell hblk P9))
            go_roundw
            case rel => exact ⟨k + 1, m + 1, A8, c8, (P ++ [(n, d, v)]), true, by omega, by omega, rfl, by go_num, ⟨HQ.out, by simp [HM.out]⟩, S9⟩
            case measure => simp [intOf]; omega
          · have HQ := Lib.hid (show (P ++ [(n, d, v)] ++ [(xn, xd, xv)]) ++ rfL Fx.key (n, d, v) true (fs.drop (k + 1)) = L by have h := HT.out; rw [hq] at h; simpa [List.append_assoc] using h)
            clear HT hq
            rcases hc with hc | ⟨h1, hc⟩
            all_goals (try have h1' : (xn.toList == n.toList) = true := by rw [h1]; simp)
            all_goals (try clear h1)
            all_goals
              go_wp2_with (first
                | (go_at_call 66; ((with_reducible refine (HFB.out _).mono ?_); rintro x wy ⟨rfl, hb⟩; have BY := Lib.hid (btO BX.out hb); have cy0 := cellO hb c0; have cy1 := cellO hb c1; have cy2 := cellO hb c2; have fy0 := cellO hb f0; have fy1 := cellO hb f1; have fy2 := cellO hb f2; have oy := cellO hb ox; clear hb))
                | (at_builtin; refine wpList_appR S9.out.own (by decide) [.string xn, .int .i64 xd, .string xv] rfl rfl _ _ 35 rfl iF _ 40 Tryz.underlying35 hiF hzF hsF hbF rfl rfl rfl (fxC_one (xn, xd, xv)) (by unfold maxLen; omega) (by omega) (Nat.succ_le_of_lt (lt_of_block S9.out.o)) ?_; intro v' w10 hown hg; obtain ⟨A10, c10, rfl, -, -, -, -, -, -⟩ := RowsR.of_own (l := P ++ [(n, d, v)] ++ [(xn, xd, xv)]) fxC_len (by decide) (by rw [rowsV_snoc]; exact hown); obtain ⟨hP, -, hblk⟩ := PuL.app (x := (xn, xd, xv)) S9.out (Below.refl _ _) hg hown; have S11 := Lib.hid hP; have o10 : w10.cell? ⟨w7.heap.size, 0, none⟩ = some (.slice A8 (m + 1) c8) := row_cell (j := 0) hblk rfl; have z10 : w10.frozen? ⟨w7.heap.size, 0, none⟩ = false := row_frz (j := 0) hblk; clear hown hg hP hblk)
                | (at_builtin; refine wpList_appR (PuL.to HS.out BY.out).own (by decide) [.string n, .int .i64 d, .string v] rfl rfl _ _ 35 rfl iF _ 40 Tryz.underlying35 hiF hzF hsF hbF rfl rfl rfl (fxC_one (n, d, v)) (by unfold maxLen; omega) (by omega) (Nat.succ_le_of_lt (lt_of_block (PuL.to HS.out BY.out).o)) ?_; intro v' w8 hown hg; obtain ⟨A8, c8, rfl, -, -, -, -, -, -⟩ := RowsR.of_own (l := P ++ [(n, d, v)]) fxC_len (by decide) (by rw [rowsV_snoc]; exact hown); obtain ⟨hP, hcell, hblk⟩ := PuL.app (x := (n, d, v)) HS.out BY.out hg hown; have o8 : w8.cell? ⟨w7.heap.size, 0, none⟩ = some (.slice A _ c) := row_cell (j := 0) hblk rfl; have z8 : w8.frozen? ⟨w7.heap.size, 0, none⟩ = false := row_frz (j := 0) hblk; obtain ⟨w9, hw9⟩ : ∃ w9, w8.setCell ⟨w7.heap.size, 0, none⟩ (.slice A8 (m + 1) c8) = w9 := ⟨_, rfl⟩; rw [hw9] at hP hcell; have S9 := Lib.hid hP; have c90 := hcell ⟨wr.heap.size, 0, none⟩ _ (Nat.le_refl _) cy0; have c91 := hcell ⟨wr.heap.size, 1, none⟩ _ (Nat.le_refl _) cy1; have c92 := hcell ⟨wr.heap.size, 2, none⟩ _ (Nat.le_refl _) cy2; have P9 := P3.out.below (btO M7.out hP.B); have f90 := P9.f0; have f91 := P9.f1; have f92 := P9.f2; have o9 : w9.cell? ⟨w7.heap.size, 0, none⟩ = some (.slice A8 (m + 1) c8) := row_cell (j := 0) hP.o rfl; clear hown hg hP hcell hblk P9))
              go_roundw
              case rel => exact ⟨k + 1, m + 1 + 1, A10, c10, (P ++ [(n, d, v)] ++ [(xn, xd, xv)]), true, by omega, by omega, rfl, by go_num, ⟨HQ.out, by simp [HM.out]⟩, S11⟩
              case measure => simp [intOf]; omega
        · rcases hc with ⟨h1, h2, hq⟩ | ⟨hq, hc⟩
          · have HQ := Lib.hid (show P ++ rfL Fx.key (n, d, v) false (fs.drop (k + 1)) = L by have h := HT.out; rw [hq] at h; simpa [List.append_assoc] using h)
            clear HT hq
            obtain rfl := h1.symm
            obtain rfl := h2.symm
            clear h1 h2
            go_wp2_with (first
              | (go_at_call 66; ((with_reducible refine (HFB.out _).mono ?_); rintro x wy ⟨rfl, hb⟩; have BY := Lib.hid (btO BX.out hb); have cy0 := cellO hb c0; have cy1 := cellO hb c1; have cy2 := cellO hb c2; have fy0 := cellO hb f0; have fy1 := cellO hb f1; have fy2 := cellO hb f2; have oy := cellO hb ox; clear hb)))
            go_roundw
            case rel => exact ⟨k + 1, m, A, c, P, false, by omega, by omega, rfl, by go_num, ⟨HQ.out, by simp [HM.out]⟩, HS.out.to BY.out⟩
            case measure => simp [intOf]; omega
          · have HQ := Lib.hid (show (P ++ [(xn, xd, xv)]) ++ rfL Fx.key (n, d, v) false (fs.drop (k + 1)) = L by have h := HT.out; rw [hq] at h; simpa [List.append_assoc] using h)
            clear HT hq
            rcases hc with hc | ⟨h1, hc⟩
            all_goals (try have h1' : (xn.toList == n.toList) = true := by rw [h1]; simp)
            all_goals (try clear h1)
            all_goals
              go_wp2_with (first
                | (go_at_call 66; ((with_reducible refine (HFB.out _).mono ?_); rintro x wy ⟨rfl, hb⟩; have BY := Lib.hid (btO BX.out hb); have cy0 := cellO hb c0; have cy1 := cellO hb c1; have cy2 := cellO hb c2; have fy0 := cellO hb f0; have fy1 := cellO hb f1; have fy2 := cellO hb f2; have oy := cellO hb ox; clear hb))
                | (at_builtin; refine wpList_appR (PuL.to HS.out BY.out).own (by decide) [.string xn, .int .i64 xd, .string xv] rfl rfl _ _ 35 rfl iF _ 40 Tryz.underlying35 hiF hzF hsF hbF rfl rfl rfl (fxC_one (xn, xd, xv)) (by unfold maxLen; omega) (by omega) (Nat.succ_le_of_lt (lt_of_block (PuL.to HS.out BY.out).o)) ?_; intro v' w8 hown hg; obtain ⟨A8, c8, rfl, -, -, -, -, -, -⟩ := RowsR.of_own (l := P ++ [(xn, xd, xv)]) fxC_len (by decide) (by rw [rowsV_snoc]; exact hown); obtain ⟨hP, hcell, hblk⟩ := PuL.app (x := (xn, xd, xv)) HS.out BY.out hg hown; have o8 : w8.cell? ⟨w7.heap.size, 0, none⟩ = some (.slice A _ c) := row_cell (j := 0) hblk rfl; have z8 : w8.frozen? ⟨w7.heap.size, 0, none⟩ = false := row_frz (j := 0) hblk; obtain ⟨w9, hw9⟩ : ∃ w9, w8.setCell ⟨w7.heap.size, 0, none⟩ (.slice A8 (m + 1) c8) = w9 := ⟨_, rfl⟩; rw [hw9] at hP hcell; have S9 := Lib.hid hP; have c90 := hcell ⟨wr.heap.size, 0, none⟩ _ (Nat.le_refl _) cy0; have c91 := hcell ⟨wr.heap.size, 1, none⟩ _ (Nat.le_refl _) cy1; have c92 := hcell ⟨wr.heap.size, 2, none⟩ _ (Nat.le_refl _) cy2; have P9 := P3.out.below (btO M7.out hP.B); have f90 := P9.f0; have f91 := P9.f1; have f92 := P9.f2; have o9 : w9.cell? ⟨w7.heap.size, 0, none⟩ = some (.slice A8 (m + 1) c8) := row_cell (j := 0) hP.o rfl; clear hown hg hP hcell hblk P9))
              go_roundw
              case rel => exact ⟨k + 1, m + 1, A8, c8, (P ++ [(xn, xd, xv)]), false, by omega, by omega, rfl, by go_num, ⟨HQ.out, by simp [HM.out]⟩, S9⟩
              case measure => simp [intOf]; omega
      · rcases hc with ⟨h1, h2, hq⟩ | ⟨hq, hc⟩
        · have HQ := Lib.hid (show P ++ rfL Fx.key (n, d, v) true (fs.drop (k + 1)) = L by have h := HT.out; rw [hq] at h; simpa [List.append_assoc] using h)
          clear HT hq
          obtain rfl := h1.symm
          obtain rfl := h2.symm
          clear h1 h2
          go_wp2_with (fail)
          go_roundw
          case rel => exact ⟨k + 1, m, A, c, P, true, by omega, by omega, rfl, by go_num, ⟨HQ.out, by simp [HM.out]⟩, HS.out.to BX.out⟩
          case measure => simp [intOf]; omega
        · have HQ := Lib.hid (show (P ++ [(xn, xd, xv)]) ++ rfL Fx.key (n, d, v) true (fs.drop (k + 1)) = L by have h := HT.out; rw [hq] at h; simpa [List.append_assoc] using h)
          clear HT hq
          rcases hc with hc | ⟨h1, hc⟩
          all_goals (try have h1' : (xn.toList == n.toList) = true := by rw [h1]; simp)
          all_goals (try clear h1)
          all_goals
            go_wp2_with (first
              | (at_builtin; refine wpList_appR (PuL.to HS.out BX.out).own (by decide) [.string xn, .int .i64 xd, .string xv] rfl rfl _ _ 35 rfl iF _ 40 Tryz.underlying35 hiF hzF hsF hbF rfl rfl rfl (fxC_one (xn, xd, xv)) (by unfold maxLen; omega) (by omega) (Nat.succ_le_of_lt (lt_of_block (PuL.to HS.out BX.out).o)) ?_; intro v' w8 hown hg; obtain ⟨A8, c8, rfl, -, -, -, -, -, -⟩ := RowsR.of_own (l := P ++ [(xn, xd, xv)]) fxC_len (by decide) (by rw [rowsV_snoc]; exact hown); obtain ⟨hP, hcell, hblk⟩ := PuL.app (x := (xn, xd, xv)) HS.out BX.out hg hown; have o8 : w8.cell? ⟨w7.heap.size, 0, none⟩ = some (.slice A _ c) := row_cell (j := 0) hblk rfl; have z8 : w8.frozen? ⟨w7.heap.size, 0, none⟩ = false := row_frz (j := 0) hblk; obtain ⟨w9, hw9⟩ : ∃ w9, w8.setCell ⟨w7.heap.size, 0, none⟩ (.slice A8 (m + 1) c8) = w9 := ⟨_, rfl⟩; rw [hw9] at hP hcell; have S9 := Lib.hid hP; have c90 := hcell ⟨wr.heap.size, 0, none⟩ _ (Nat.le_refl _) c0; have c91 := hcell ⟨wr.heap.size, 1, none⟩ _ (Nat.le_refl _) c1; have c92 := hcell ⟨wr.heap.size, 2, none⟩ _ (Nat.le_refl _) c2; have P9 := P3.out.below (btO M7.out hP.B); have f90 := P9.f0; have f91 := P9.f1; have f92 := P9.f2; have o9 : w9.cell? ⟨w7.heap.size, 0, none⟩ = some (.slice A8 (m + 1) c8) := row_cell (j := 0) hP.o rfl; clear hown hg hP hcell hblk P9))
            go_roundw
            case rel => exact ⟨k + 1, m + 1, A8, c8, (P ++ [(xn, xd, xv)]), true, by omega, by omega, rfl, by go_num, ⟨HQ.out, by simp [HM.out]⟩, S9⟩
            case measure => simp [intOf]; omega
    · obtain rfl : k = fs.length := by omega
      obtain ⟨-, -, f0, f1, f2, r0, r1⟩ := HP.out
      have ox : wr.cell? ⟨w7.heap.size, 0, none⟩ = some (.slice A m c) := row_cell (j := 0) HS.out.o rfl
      have ox1 : wr.cell? ⟨w7.heap.size, 1, none⟩ = some (.slice A7 cs.length c7) := row_cell (j := 1) HS.out.o rfl
      have hrr : wr.heap[w2.heap.size]? = some (.cells #[.slice none 0 0, .slice none 0 0] 38 (0, 0)) := ((btO M7.out HS.out.B).block _ (lt_of_block HR.out)).trans HR.out
      have t0 := row_frz (j := 0) hrr
      have t1 := row_frz (j := 1) hrr
      have HRR := Lib.hid hrr
      have BR := Lib.hid (Below.refl wr.heap.size wr)
      clear hrr
      cases pb
      · have HT := Lib.hid (show P ++ [(n, d, v)] = L by have h := HJ.out.1; rw [List.drop_length] at h; simpa [rfL] using h)
        have hln : L.length = m + 1 := by rw [← HT.out, HM.out]; simp
        have hrs := HRS.out
        clear HJ HRS
        rcases hrs with ⟨hl, rfl, rfl, rfl⟩ | ⟨hl, rfl, rfl, rfl⟩
        · have hl' : (m : Int) + 1 ≤ 1000 := by omega
          go_wp2_with (first
            | (at_builtin; refine wpList_appR (PuL.to HS.out BR.out).own (by decide) [.string n, .int .i64 d, .string v] rfl rfl _ _ 35 rfl iF _ 40 Tryz.underlying35 hiF hzF hsF hbF rfl rfl rfl (fxC_one (n, d, v)) (by unfold maxLen; omega) (by omega) (Nat.succ_le_of_lt (lt_of_block (PuL.to HS.out BR.out).o)) ?_; intro v' w8 hown hg; obtain ⟨A8, c8, rfl, -, -, -, -, -, -⟩ := RowsR.of_own (l := P ++ [(n, d, v)]) fxC_len (by decide) (by rw [rowsV_snoc]; exact hown); obtain ⟨hP, hcell, hblk⟩ := PuL.app (x := (n, d, v)) HS.out BR.out hg hown; have o8 : w8.cell? ⟨w7.heap.size, 0, none⟩ = some (.slice A _ c) := row_cell (j := 0) hblk rfl; have z8 : w8.frozen? ⟨w7.heap.size, 0, none⟩ = false := row_frz (j := 0) hblk; obtain ⟨w9, hw9⟩ : ∃ w9, w8.setCell ⟨w7.heap.size, 0, none⟩ (.slice A8 (m + 1) c8) = w9 := ⟨_, rfl⟩; rw [hw9] at hP hcell; have S9 := Lib.hid hP; have P9 := P3.out.below (btO M7.out hP.B); have r90 := P9.r0; have r91 := P9.r1; have o9 : w9.cell? ⟨w7.heap.size, 0, none⟩ = some (.slice A8 (m + 1) c8) := row_cell (j := 0) hP.o rfl; have o91 : w9.cell? ⟨w7.heap.size, 1, none⟩ = some (.slice A7 _ c7) := row_cell (j := 1) hP.o rfl; have hr9 := ((btO M7.out S9.out.B).block _ (lt_of_block HR.out)).trans HR.out; have t90 := row_frz (j := 0) hr9; have t91 := row_frz (j := 1) hr9; clear hown hg hP hcell hblk P9 hr9))
          have E := put_end S9.out HB.out M7.out HI.out HR.out N7.out (by have := HSZ.out; omega) (by have := HSZ.out; have := M6.out.size; rw [World.size_alloc]; omega) (by have := lt_of_block HR.out; have := M7.out.size; omega) (show P ++ [(n, d, v)] = RL from HT.out) hln hl hn hv HLL.out
          refine bodyPost_ret (results_row_tmpO rfl _ _ w2.heap.size 38 _ (0, 0) _ (.int .i64 0) rfl rfl E.1 Tryz.underlying38 (by kernel_rfl) (by kernel_rfl)) rfl E.2
        · have hl' : (1000 : Int) < (m : Int) + 1 := by omega
          go_wp2_with (first
            | (at_builtin; refine wpList_appR (PuL.to HS.out BR.out).own (by decide) [.string n, .int .i64 d, .string v] rfl rfl _ _ 35 rfl iF _ 40 Tryz.underlying35 hiF hzF hsF hbF rfl rfl rfl (fxC_one (n, d, v)) (by unfold maxLen; omega) (by omega) (Nat.succ_le_of_lt (lt_of_block (PuL.to HS.out BR.out).o)) ?_; intro v' w8 hown hg; obtain ⟨A8, c8, rfl, -, -, -, -, -, -⟩ := RowsR.of_own (l := P ++ [(n, d, v)]) fxC_len (by decide) (by rw [rowsV_snoc]; exact hown); obtain ⟨hP, hcell, hblk⟩ := PuL.app (x := (n, d, v)) HS.out BR.out hg hown; have o8 : w8.cell? ⟨w7.heap.size, 0, none⟩ = some (.slice A _ c) := row_cell (j := 0) hblk rfl; have z8 : w8.frozen? ⟨w7.heap.size, 0, none⟩ = false := row_frz (j := 0) hblk; obtain ⟨w9, hw9⟩ : ∃ w9, w8.setCell ⟨w7.heap.size, 0, none⟩ (.slice A8 (m + 1) c8) = w9 := ⟨_, rfl⟩; rw [hw9] at hP hcell; have S9 := Lib.hid hP; have P9 := P3.out.below (btO M7.out hP.B); have r90 := P9.r0; have r91 := P9.r1; have o9 : w9.cell? ⟨w7.heap.size, 0, none⟩ = some (.slice A8 (m + 1) c8) := row_cell (j := 0) hP.o rfl; have o91 : w9.cell? ⟨w7.heap.size, 1, none⟩ = some (.slice A7 _ c7) := row_cell (j := 1) hP.o rfl; have hr9 := ((btO M7.out S9.out.B).block _ (lt_of_block HR.out)).trans HR.out; have t90 := row_frz (j := 0) hr9; have t91 := row_frz (j := 1) hr9; clear hown hg hP hcell hblk P9 hr9))
          have E := put_full S9.out HB.out M7.out HR.out (by have := HSZ.out; omega)
          refine bodyPost_ret (results_row_tmpO rfl _ _ w2.heap.size 38 _ (0, 0) _ (.int .i64 22) rfl rfl E.1 Tryz.underlying38 (by kernel_rfl) (by kernel_rfl)) rfl E.2
      · have HT := Lib.hid (show P = L by have h := HJ.out.1; rw [List.drop_length] at h; simpa [rfL] using h)
        have hln : L.length = m := by rw [← HT.out, HM.out]
        have hrs := HRS.out
        clear HJ HRS
        rcases hrs with ⟨hl, rfl, rfl, rfl⟩ | ⟨hl, rfl, rfl, rfl⟩
        · have hl' : (m : Int) ≤ 1000 := by omega
          go_wp2_with (fail)
          have E := put_end HS.out HB.out M7.out HI.out HR.out N7.out (by have := HSZ.out; omega) (by have := HSZ.out; have := M6.out.size; rw [World.size_alloc]; omega) (by have := lt_of_block HR.out; have := M7.out.size; omega) (show P = RL from HT.out) hln hl hn hv HLL.out
          refine bodyPost_ret (results_row_tmpO rfl _ _ w2.heap.size 38 _ (0, 0) _ (.int .i64 0) rfl rfl E.1 Tryz.underlying38 (by kernel_rfl) (by kernel_rfl)) rfl E.2
        · have hl' : (1000 : Int) < (m : Int) := by omega
          go_wp2_with (fail)
          have E := put_full HS.out HB.out M7.out HR.out (by have := HSZ.out; omega)
          refine bodyPost_ret (results_row_tmpO rfl _ _ w2.heap.size 38 _ (0, 0) _ (.int .i64 22) rfl rfl E.1 Tryz.underlying38 (by kernel_rfl) (by kernel_rfl)) rfl E.2
end Go.Proofs.YtbfimfjhdbpenaaGreatDoor
/- Layer 8: Put of the reference where it refuses; joined. -/
namespace Go.Proofs.YtbfimfjhdbpenaaGreatDoor
open Go Go.RowKit Go.BigFrame
set_option maxRecDepth 100000 in
set_option maxHeartbeats 6400000 in
theorem rput_bad (E : Ev) (n v : ByteArray) (d : Int) (w : World) (hin : E.In w) (ve vc e : Int) (bN bD : Bool) (hE : ∀ W, Below w.heap.size w W → Calls Tryz.prog 30 #[E.val] W (IntRO ve W))
    (hN : nameO n.data.toList = bN) (hD : dayO d = bD) (hC : ∀ W, Calls Tryz.prog 65 #[.string v] W (IntB vc W)) (hcase : (¬ ve = 0 ∧ e = ve) ∨ (ve = 0 ∧ bN = false ∧ e = 2) ∨ (ve = 0 ∧ bN = true ∧ bD = false ∧ e = 2) ∨ (ve = 0 ∧ bN = true ∧ bD = true ∧ ¬ vc = 0 ∧ e = vc)) :
    Calls Tryz.prog 26 #[E.val, .agg #[.string n, .int .i64 d, .string v]] w (PutR [] [] e w) := by
  obtain ⟨fA, fs, fc, cA, cs, cc⟩ := E
  have HB1 := belO w (.cells #[.slice fA fs.length fc, .slice cA cs.length cc] 38)
  obtain ⟨w1, hw1⟩ : ∃ w1, w.alloc (.cells #[.slice fA fs.length fc, .slice cA cs.length cc] 38) = w1 := ⟨_, rfl⟩
  have a0 : w1.cell? ⟨w.heap.size, 0, none⟩ = some (.slice fA fs.length fc) := by rw [← hw1, World.cell?_alloc_at _ _ _ _ rfl]; rfl
  have a1 : w1.cell? ⟨w.heap.size, 1, none⟩ = some (.slice cA cs.length cc) := by rw [← hw1, World.cell?_alloc_at _ _ _ _ rfl]; rfl
  have hs1 : w1.heap.size = w.heap.size + 1 := by rw [← hw1, World.size_alloc]
  rw [hw1] at HB1
  have HB2 := belO w1 (.cells #[.string n, .int .i64 d, .string v] 44)
  obtain ⟨w2, hw2⟩ : ∃ w2, w1.alloc (.cells #[.string n, .int .i64 d, .string v] 44) = w2 := ⟨_, rfl⟩
  have b0 : w2.cell? ⟨w1.heap.size, 0, none⟩ = some (.string n) := by rw [← hw2, World.cell?_alloc_at _ _ _ _ rfl]; rfl
  have b1 : w2.cell? ⟨w1.heap.size, 1, none⟩ = some (.int .i64 d) := by rw [← hw2, World.cell?_alloc_at _ _ _ _ rfl]; rfl
  have b2 : w2.cell? ⟨w1.heap.size, 2, none⟩ = some (.string v) := by rw [← hw2, World.cell?_alloc_at _ _ _ _ rfl]; rfl
  have hs2 : w2.heap.size = w1.heap.size + 1 := by rw [← hw2, World.size_alloc]
  rw [hw2] at HB2
  have HB3 := belO w2 (.cells #[.slice none 0 0, .slice none 0 0] 38)
  obtain ⟨w3, hw3⟩ : ∃ w3, w2.alloc (.cells #[.slice none 0 0, .slice none 0 0] 38) = w3 := ⟨_, rfl⟩
  have hrow : w3.heap[w2.heap.size]? = some (.cells #[.slice none 0 0, .slice none 0 0] 38 (0, 0)) := by rw [← hw3]; exact heap_alloc_new w2 _
  have hs3 : w3.heap.size = w2.heap.size + 1 := by rw [← hw3, World.size_alloc]
  rw [hw3] at HB3
  have P3 := Lib.hid (show PuB w.heap.size w1.heap.size w2.heap.size (.slice fA fs.length fc) (.slice cA cs.length cc) (.string n) (.int .i64 d) (.string v) w3 from ⟨cellO (btO HB2 HB3) a0, cellO (btO HB2 HB3) a1, cellO HB3 b0, cellO HB3 b1, cellO HB3 b2, row_cell (j := 0) hrow rfl, row_cell (j := 1) hrow rfl⟩)
  have HB := Lib.hid (btO HB1 (btO HB2 HB3))
  have HI := Lib.hid ((hin.below HB1).below (btO HB2 HB3))
  have HR := Lib.hid hrow
  have HE := Lib.hid hE
  have HN := Lib.hid (fun W => rname8_any n bN hN W)
  have HD := Lib.hid (fun W => show Calls Tryz.prog 64 #[.int .i64 d] W fun e w' => e = .returned (.bool bD) ∧ W = w' by rw [← hD]; exact rday_any d W)
  have HC := Lib.hid hC
  have HSZ := Lib.hid (show w.heap.size < w1.heap.size ∧ w1.heap.size < w2.heap.size ∧ w2.heap.size < w3.heap.size by omega)
  show Calls Tryz.prog 26 #[.agg #[.slice fA fs.length fc, .slice cA cs.length cc], .agg #[.string n, .int .i64 d, .string v]] w _
  clear hin hE hN hD hC HB1 HB2 HB3 a0 a1 b0 b1 b2 hrow hs1 hs2 hs3
  obtain ⟨e0, e1, f0, f1, f2, r0, r1⟩ := P3.out
  have t0 := row_frz (j := 0) HR.out
  have t1 := row_frz (j := 1) HR.out
  rcases hcase with ⟨h1, rfl⟩ | ⟨rfl, rfl, rfl⟩ | ⟨rfl, rfl, rfl, rfl⟩ | ⟨rfl, rfl, rfl, h1, rfl⟩
  · have h1' : (e == 0) = false := by rw [beq_eq_false_iff_ne]; exact h1
    go_enter Tryz.func26, Tryz.ntmps26
    go_wp2_with (first
      | (go_at_call 30; ((with_reducible refine (HE.out _ (btO HB.out M4.out)).mono ?_); rintro x w6 ⟨rfl, hb⟩; have M6 := Lib.hid (btO M4.out hb); clear hb e0 e1 f0 f1 f2 r0 r1 t0 t1; obtain ⟨e0, e1, f0, f1, f2, r0, r1⟩ := P3.out.below M6.out; have hr6 := (M6.out.block _ (lt_of_block HR.out)).trans HR.out; have t0 := row_frz (j := 0) hr6; have t1 := row_frz (j := 1) hr6; have R6 := Lib.hid hr6; clear hr6))
      | (go_at_call 30; ((with_reducible refine (HE.out _ HB.out).mono ?_); rintro x w4 ⟨rfl, hb⟩; have M4 := Lib.hid (hb); clear hb e0 e1 f0 f1 f2 r0 r1 t0 t1; obtain ⟨e0, e1, f0, f1, f2, r0, r1⟩ := P3.out.below M4.out; have hr4 := (M4.out.block _ (lt_of_block HR.out)).trans HR.out; have t0 := row_frz (j := 0) hr4; have t1 := row_frz (j := 1) hr4; have R4 := Lib.hid hr4; clear hr4)))
    refine bodyPost_ret (results_row_tmpO rfl _ _ w2.heap.size 38 _ (0, 0) _ (.int .i64 e) rfl rfl (heap_set2O R6.out _ _) Tryz.underlying38 (by kernel_rfl) (by kernel_rfl)) rfl ?_
    exact putR_nil (((HB.out.trans (M6.out.mono HB.out.size)).setCell (p := ⟨w2.heap.size, 0, none⟩) (by show w.heap.size ≤ w2.heap.size; have := HSZ.out; omega) _).setCell (p := ⟨w2.heap.size, 1, none⟩) (by show w.heap.size ≤ w2.heap.size; have := HSZ.out; omega) _)
  · skip
    go_enter Tryz.func26, Tryz.ntmps26
    go_wp2_with (first
      | (go_at_call 30; ((with_reducible refine (HE.out _ HB.out).mono ?_); rintro x w4 ⟨rfl, hb⟩; have M4 := Lib.hid (hb); clear hb e0 e1 f0 f1 f2 r0 r1 t0 t1; obtain ⟨e0, e1, f0, f1, f2, r0, r1⟩ := P3.out.below M4.out; have hr4 := (M4.out.block _ (lt_of_block HR.out)).trans HR.out; have t0 := row_frz (j := 0) hr4; have t1 := row_frz (j := 1) hr4; have R4 := Lib.hid hr4; clear hr4))
      | (go_at_call 63; ((with_reducible refine (HN.out _).mono ?_); rintro x w5 ⟨rfl, rfl⟩)))
    refine bodyPost_ret (results_row_tmpO rfl _ _ w2.heap.size 38 _ (0, 0) _ (.int .i64 2) rfl rfl (heap_set2O R4.out _ _) Tryz.underlying38 (by kernel_rfl) (by kernel_rfl)) rfl ?_
    exact putR_nil (((HB.out.trans (M4.out.mono HB.out.size)).setCell (p := ⟨w2.heap.size, 0, none⟩) (by show w.heap.size ≤ w2.heap.size; have := HSZ.out; omega) _).setCell (p := ⟨w2.heap.size, 1, none⟩) (by show w.heap.size ≤ w2.heap.size; have := HSZ.out; omega) _)
  · skip
    go_enter Tryz.func26, Tryz.ntmps26
    go_wp2_with (first
      | (go_at_call 30; ((with_reducible refine (HE.out _ HB.out).mono ?_); rintro x w4 ⟨rfl, hb⟩; have M4 := Lib.hid (hb); clear hb e0 e1 f0 f1 f2 r0 r1 t0 t1; obtain ⟨e0, e1, f0, f1, f2, r0, r1⟩ := P3.out.below M4.out; have hr4 := (M4.out.block _ (lt_of_block HR.out)).trans HR.out; have t0 := row_frz (j := 0) hr4; have t1 := row_frz (j := 1) hr4; have R4 := Lib.hid hr4; clear hr4))
      | (go_at_call 63; ((with_reducible refine (HN.out _).mono ?_); rintro x w5 ⟨rfl, rfl⟩))
      | (go_at_call 64; ((with_reducible refine (HD.out _).mono ?_); rintro x w5 ⟨rfl, rfl⟩)))
    refine bodyPost_ret (results_row_tmpO rfl _ _ w2.heap.size 38 _ (0, 0) _ (.int .i64 2) rfl rfl (heap_set2O R4.out _ _) Tryz.underlying38 (by kernel_rfl) (by kernel_rfl)) rfl ?_
    exact putR_nil (((HB.out.trans (M4.out.mono HB.out.size)).setCell (p := ⟨w2.heap.size, 0, none⟩) (by show w.heap.size ≤ w2.heap.size; have := HSZ.out; omega) _).setCell (p := ⟨w2.heap.size, 1, none⟩) (by show w.heap.size ≤ w2.heap.size; have := HSZ.out; omega) _)
  · have h1' : (e == 0) = false := by rw [beq_eq_false_iff_ne]; exact h1
    go_enter Tryz.func26, Tryz.ntmps26
    go_wp2_with (first
      | (go_at_call 30; ((with_reducible refine (HE.out _ HB.out).mono ?_); rintro x w4 ⟨rfl, hb⟩; have M4 := Lib.hid (hb); clear hb e0 e1 f0 f1 f2 r0 r1 t0 t1; obtain ⟨e0, e1, f0, f1, f2, r0, r1⟩ := P3.out.below M4.out; have hr4 := (M4.out.block _ (lt_of_block HR.out)).trans HR.out; have t0 := row_frz (j := 0) hr4; have t1 := row_frz (j := 1) hr4; have R4 := Lib.hid hr4; clear hr4))
      | (go_at_call 63; ((with_reducible refine (HN.out _).mono ?_); rintro x w5 ⟨rfl, rfl⟩))
      | (go_at_call 64; ((with_reducible refine (HD.out _).mono ?_); rintro x w5 ⟨rfl, rfl⟩))
      | (go_at_call 65; ((with_reducible refine (HC.out _).mono ?_); rintro x w7 ⟨rfl, hb⟩; have M7 := Lib.hid (btO M6.out hb); clear hb e0 e1 f0 f1 f2 r0 r1 t0 t1; obtain ⟨e0, e1, f0, f1, f2, r0, r1⟩ := P3.out.below M7.out; have hr7 := (M7.out.block _ (lt_of_block HR.out)).trans HR.out; have t0 := row_frz (j := 0) hr7; have t1 := row_frz (j := 1) hr7; have R7 := Lib.hid hr7; clear hr7))
      | (go_at_call 65; ((with_reducible refine (HC.out _).mono ?_); rintro x w6 ⟨rfl, hb⟩; have M6 := Lib.hid (btO M4.out hb); clear hb e0 e1 f0 f1 f2 r0 r1 t0 t1; obtain ⟨e0, e1, f0, f1, f2, r0, r1⟩ := P3.out.below M6.out; have hr6 := (M6.out.block _ (lt_of_block HR.out)).trans HR.out; have t0 := row_frz (j := 0) hr6; have t1 := row_frz (j := 1) hr6; have R6 := Lib.hid hr6; clear hr6)))
    refine bodyPost_ret (results_row_tmpO rfl _ _ w2.heap.size 38 _ (0, 0) _ (.int .i64 e) rfl rfl (heap_set2O R7.out _ _) Tryz.underlying38 (by kernel_rfl) (by kernel_rfl)) rfl ?_
    exact putR_nil (((HB.out.trans (M7.out.mono HB.out.size)).setCell (p := ⟨w2.heap.size, 0, none⟩) (by show w.heap.size ≤ w2.heap.size; have := HSZ.out; omega) _).setCell (p := ⟨w2.heap.size, 1, none⟩) (by show w.heap.size ≤ w2.heap.size; have := HSZ.out; omega) _)
def putFL (fs : List Fx) (cs : List Cx) (f : Fx) : List Fx := if putFE fs cs f = 0 then insL Fx.key f fs else []
def putFC (fs : List Fx) (cs : List Cx) (f : Fx) : List Cx := if putFE fs cs f = 0 then cs else []
theorem envE_zero {fs : List Fx} {cs : List Cx} (h : envE fs cs = 0) : fs.length ≤ 1000 ∧ cs.length ≤ 1000 ∧ ordB Fx.key Fx.ok fs = true ∧ ordB Cx.key Cx.ok cs = true := by
  unfold envE at h
  split at h
  · cases h
  · next g =>
    split at h
    · next k => rw [Bool.and_eq_true] at k; exact ⟨by omega, by omega, k.1, k.2⟩
    · cases h
theorem rput_any (E : Ev) (n v : ByteArray) (d : Int) (w : World) (hin : E.In w) (hsf : ∀ f ∈ E.fs, f.2.2.size ≤ 1048576) (hn : n.size ≤ 140737488351232) (hv : v.size ≤ 1048576) :
    Calls Tryz.prog 26 #[E.val, .agg #[.string n, .int .i64 d, .string v]] w (PutR (putFL E.fs E.cs (n, d, v)) (putFC E.fs E.cs (n, d, v)) (putFE E.fs E.cs (n, d, v)) w) := by
  have hE : ∀ W, Below w.heap.size w W → Calls Tryz.prog 30 #[E.val] W (IntRO (envE E.fs E.cs) W) := fun W hW => rcheckEnv_any E W (hin.below hW) hsf
  have hC : ∀ W, Calls Tryz.prog 65 #[.string v] W (IntB (chkR v.data.toList) W) := fun W => refRCheck_any v hv W
  have bad : ∀ e, putFE E.fs E.cs (n, d, v) = e → ¬ e = 0 → Calls Tryz.prog 26 #[E.val, .agg #[.string n, .int .i64 d, .string v]] w (PutR [] [] e w) → Calls Tryz.prog 26 #[E.val, .agg #[.string n, .int .i64 d, .string v]] w (PutR (putFL E.fs E.cs (n, d, v)) (putFC E.fs E.cs (n, d, v)) (putFE E.fs E.cs (n, d, v)) w) := fun e h1 h2 h => by
    unfold putFL putFC
    rw [h1, if_neg h2, if_neg h2]
    exact h
  have hdef : putFE E.fs E.cs (n, d, v) = if envE E.fs E.cs ≠ 0 then envE E.fs E.cs else if (nameO n.data.toList && dayO d) = false then 2 else if chkR v.data.toList ≠ 0 then chkR v.data.toList else if 1000 < (insL Fx.key (n, d, v) E.fs).length then 22 else 0 := rfl
  by_cases h1 : envE E.fs E.cs = 0
  · rw [if_neg (by simp [h1])] at hdef
    rw [h1] at hE
    cases hN : nameO n.data.toList
    · rw [hN, Bool.false_and, if_pos rfl] at hdef
      exact bad 2 hdef (by decide) (rput_bad E n v d w hin 0 _ 2 false _ hE hN rfl hC (.inr (.inl ⟨rfl, rfl, rfl⟩)))
    · cases hD : dayO d
      · rw [hN, hD, Bool.and_false, if_pos rfl] at hdef
        exact bad 2 hdef (by decide) (rput_bad E n v d w hin 0 _ 2 true false hE hN hD hC (.inr (.inr (.inl ⟨rfl, rfl, rfl, rfl⟩))))
      · rw [hN, hD, Bool.and_true, if_neg (by decide)] at hdef
        by_cases h2 : chkR v.data.toList = 0
        · rw [if_neg (by simp [h2])] at hdef
          rw [h2] at hC
          obtain ⟨l1, l2, o1, o2⟩ := envE_zero h1
          have hL := rfL_eq (key := Fx.key) (x := (n, d, v)) E.fs (inc_of o1).1
          refine (rput_main E n v d w hin l1 l2 hE hN hD hC _ hL hn (by omega) (putFL E.fs E.cs (n, d, v)) (putFC E.fs E.cs (n, d, v)) (putFE E.fs E.cs (n, d, v)) ?_)
          unfold putFL putFC
          by_cases h3 : 1000 < (insL Fx.key (n, d, v) E.fs).length
          · rw [if_pos h3] at hdef
            rw [hdef]
            exact .inr ⟨h3, rfl, rfl, rfl⟩
          · rw [if_neg h3] at hdef
            rw [hdef]
            exact .inl ⟨by omega, rfl, rfl, rfl⟩
        · rw [if_pos h2] at hdef
          exact bad _ hdef h2 (rput_bad E n v d w hin 0 _ _ true true hE hN hD hC (.inr (.inr (.inr ⟨rfl, rfl, rfl, h2, rfl⟩))))
  · rw [if_pos h1] at hdef
    exact bad _ hdef h1 (rput_bad E n v d w hin _ _ _ _ _ hE rfl rfl hC (.inl ⟨h1, rfl⟩))
end Go.Proofs.YtbfimfjhdbpenaaGreatDoor
/- Layer 8: Choose of the reference, main way. -/
namespace Go.Proofs.YtbfimfjhdbpenaaGreatDoor
open Go Go.RowKit Go.BigFrame
theorem bytes_inj {a b : ByteArray} (h : a.data.toList = b.data.toList) : a = b := by
  cases a; cases b
  exact congrArg ByteArray.mk (Array.toList_inj.1 h)
theorem fx_key_eqC (p n : ByteArray) (d : Int) (f : Bool) (x : Cx) : x.key = Cx.key (p, n, d, f) ↔ cxP p n d x = true := by
  unfold cxP Cx.key
  rw [decide_eq_true_eq]
  constructor
  · intro h
    injection h with h0 h
    injection h with h1 h2
    exact ⟨bytes_inj h0, bytes_inj h1, h2⟩
  · rintro ⟨rfl, rfl, rfl⟩; rfl
structure PuBC (q0 q1 q2 : Nat) (x0 x1 y0 y1 y2 y3 : Value) (W : World) : Prop where
  e0 : W.cell? ⟨q0, 0, none⟩ = some x0
  e1 : W.cell? ⟨q0, 1, none⟩ = some x1
  f0 : W.cell? ⟨q1, 0, none⟩ = some y0
  f1 : W.cell? ⟨q1, 1, none⟩ = some y1
  f2 : W.cell? ⟨q1, 2, none⟩ = some y2
  f3 : W.cell? ⟨q1, 3, none⟩ = some y3
  r0 : W.cell? ⟨q2, 0, none⟩ = some (.slice none 0 0)
  r1 : W.cell? ⟨q2, 1, none⟩ = some (.slice none 0 0)
theorem PuBC.below {q0 q1 q2 : Nat} {x0 x1 y0 y1 y2 y3 : Value} {W W' : World} (h : PuBC q0 q1 q2 x0 x1 y0 y1 y2 y3 W) (hb : Below W.heap.size W W') : PuBC q0 q1 q2 x0 x1 y0 y1 y2 y3 W' := ⟨cellO hb h.e0, cellO hb h.e1, cellO hb h.f0, cellO hb h.f1, cellO hb h.f2, cellO hb h.f3, cellO hb h.r0, cellO hb h.r1⟩
theorem rf_stepC {pp n : ByteArray} {d : Int} {ff : Bool} {cs L P : List Cx} {pb : Bool} {k : Nat} (hk : k < cs.length) (h : P ++ rfL Cx.key (pp, n, d, ff) pb (cs.drop k) = L) :
    (P ++ ((if (!pb && !ltK cs[k].key (Cx.key (pp, n, d, ff))) = true then [(pp, n, d, ff)] else []) ++ (if cxP pp n d cs[k] = true then [] else [cs[k]]))) ++ rfL Cx.key (pp, n, d, ff) (pb || !ltK cs[k].key (Cx.key (pp, n, d, ff))) (cs.drop (k + 1)) = L := by
  rw [List.drop_eq_getElem_cons hk, rfL] at h
  rw [← h, List.append_assoc, List.append_assoc]
  congr 2
  simp only [fx_key_eqC]
structure PuLC (w7 : World) (vC : Value) (wr : World) (A : Option Addr) (m c : Nat) (P : List Cx) : Prop where
  B : Below w7.heap.size w7 wr
  o : wr.heap[w7.heap.size]? = some (.cells #[vC, .slice A m c] 38 (0, 0))
  own : wr.ownsRow (w7.heap.size + 1) 47 4 (.slice A m c) m (rowsV cxC P)
theorem PuLC.to {w7 : World} {vC : Value} {wr wr' : World} {A : Option Addr} {m c : Nat} {P : List Cx} (h : PuLC w7 vC wr A m c P) (hb : Below wr.heap.size wr wr') : PuLC w7 vC wr' A m c P :=
  ⟨h.B.trans (hb.mono (Nat.le_of_lt (lt_of_block h.o))), (hb.block _ (lt_of_block h.o)).trans h.o, own_belO h.own hb⟩
theorem PuLC.start (w7 : World) (vC : Value) : PuLC w7 vC (w7.alloc (.cells #[vC, .slice none 0 0] 38)) none 0 0 [] :=
  ⟨belO _ _, heap_alloc_new w7 _, World.ownsRow_nil _ _ _ _⟩
theorem PuLC.app {w7 : World} {vC : Value} {wr wy w' : World} {A A' : Option Addr} {m c c' : Nat} {P : List Cx} {x : Cx} {o : Obj} (h : PuLC w7 vC wr A m c P) (hby : Below wr.heap.size wr wy) (hg : (wy.alloc o).grownBy w' (Value.slice A m c).ownBlock)
    (hown : w'.ownsRow (w7.heap.size + 1) 47 4 (.slice A' (m + 1) c') (m + 1) (rowsV cxC P ++ cxC x)) :
    PuLC w7 vC (w'.setCell ⟨w7.heap.size, 1, none⟩ (.slice A' (m + 1) c')) A' (m + 1) c' (P ++ [x]) ∧ (∀ p u, wr.heap.size ≤ p.block → wy.cell? p = some u → (w'.setCell ⟨w7.heap.size, 1, none⟩ (.slice A' (m + 1) c')).cell? p = some u) ∧ w'.heap[w7.heap.size]? = some (.cells #[vC, .slice A m c] 38 (0, 0)) := by
  have h7 : w7.heap.size < wr.heap.size := lt_of_block h.o
  have hlt := h.own.lt
  have hsz : wy.heap.size < (wy.alloc o).heap.size := by rw [World.size_alloc]; omega
  have hy := hby.size
  have hblk : ∀ k, k ≤ w7.heap.size → w'.heap[k]? = wr.heap[k]? := fun k hk => by
    rw [hg.block k (by omega) (fun e => by have := hlt k e.symm; omega)]
    exact ((belO wy o).block k (by omega)).trans (hby.block k (by omega))
  refine ⟨⟨?_, ?_, ?_⟩, ?_, (hblk _ (Nat.le_refl _)).trans h.o⟩
  · refine Below.setCell (p := ⟨w7.heap.size, 1, none⟩) ?_ (Nat.le_refl _) _
    have h1 : Below w7.heap.size w7 (wy.alloc o) := (h.B.trans (hby.mono (by omega))).trans ((belO wy o).mono (by omega))
    exact h1.grown hg (by omega) (fun k hk => by have := hlt k hk; omega)
  · have h2 : w'.heap[w7.heap.size]? = some (.cells #[vC, .slice A m c] 38 (0, 0)) := (hblk _ (Nat.le_refl _)).trans h.o
    exact heap_setCell_same w' w7.heap.size 1 _ _ _ h2
  · rw [rowsV_snoc]
    exact own_setO hown (Nat.lt_succ_self _) _
  · intro p u hp hu
    rw [World.cell?_setCell_far _ _ _ _ (by show w7.heap.size ≠ p.block; omega)]
    exact hg.cell ((cellO (belO wy o) hu)) (fun e => by have := hlt _ e.symm; omega)
theorem put_endC {w w3 w7 W : World} {r B : Nat} {fA cA A A7 : Option Addr} {cs L P : List Cx} {fs : List Fx} {fc cc m c c7 : Nat} {pp n : ByteArray} {d : Int} {ff : Bool} (S : PuLC w7 (.slice A7 fs.length c7) W A m c P) (hb : Below w.heap.size w w3) (m7 : Below w3.heap.size w3 w7) (hI : Ev.In w3 ⟨fA, fs, fc, cA, cs, cc⟩)
    (hr : w3.heap[r]? = some (.cells #[.slice none 0 0, .slice none 0 0] 38 (0, 0))) (n7 : NewR w7 B A7 3 fxC fs) (h0 : w.heap.size ≤ r) (hB : r < B) (h7 : r < w7.heap.size) (hP : P = L) {m' : Nat} (hm : L.length = m') (hl : L.length ≤ 1000) (hn : n.size ≤ 140737488351232) (hv : pp.size ≤ 140737488351232) (hL : rfL Cx.key (pp, n, d, ff) false cs = L) (hmm : m = m' := by rfl) :
    ((W.setCell ⟨r, 0, none⟩ (.slice A7 fs.length c7)).setCell ⟨r, 1, none⟩ (.slice A m c)).heap[r]? = some (.cells #[.slice A7 fs.length c7, .slice A m c] 38 (0, 0)) ∧
      PutR fs L 0 w (.returned (.tuple #[.agg #[.slice A7 fs.length c7, .slice A m c], .int .i64 0])) ((W.setCell ⟨r, 0, none⟩ (.slice A7 fs.length c7)).setCell ⟨r, 1, none⟩ (.slice A m c)) := by
  subst hP hmm hm
  have hbW : Below w3.heap.size w3 W := btO m7 S.B
  refine ⟨heap_set2O ((hbW.block _ (lt_of_block hr)).trans hr) _ _, A7, c7, A, c, rfl, ⟨?_, ?_, hI.fl, ?_, hI.fb, ?_⟩, ?_⟩
  · exact (((n7.below S.B).set ⟨r, 0, none⟩ hB _).set ⟨r, 1, none⟩ hB _).rd
  · have h1 := own_setO (own_setO S.own (p := ⟨r, 0, none⟩) (by show r < w7.heap.size + 1; omega) (.slice A7 fs.length c7)) (p := ⟨r, 1, none⟩) (by show r < w7.heap.size + 1; omega) (.slice A P.length c)
    obtain ⟨A', c', e, -, h2, -⟩ := RowsR.of_own cxC_len (by decide) h1
    injection e with e1 e2 e3
    subst e1
    exact h2
  · show P.length ≤ _; omega
  · intro f hf
    rw [← hL] at hf
    rcases rfL_mem _ _ _ _ _ hf with h | h
    · rw [h]; exact ⟨hv, hn⟩
    · exact hI.cb f h
  · exact ((hb.trans (hbW.mono hb.size)).setCell (p := ⟨r, 0, none⟩) h0 _).setCell (p := ⟨r, 1, none⟩) h0 _
theorem put_fullC {w w3 w7 W : World} {r : Nat} {A : Option Addr} {P : List Cx} {m c : Nat} {vC : Value} (S : PuLC w7 vC W A m c P) (hb : Below w.heap.size w w3) (m7 : Below w3.heap.size w3 w7)
    (hr : w3.heap[r]? = some (.cells #[.slice none 0 0, .slice none 0 0] 38 (0, 0))) (h0 : w.heap.size ≤ r) :
    ((W.setCell ⟨r, 0, none⟩ (.slice none 0 0)).setCell ⟨r, 1, none⟩ (.slice none 0 0)).heap[r]? = some (.cells #[.slice none 0 0, .slice none 0 0] 38 (0, 0)) ∧
      PutR [] [] 22 w (.returned (.tuple #[.agg #[.slice none 0 0, .slice none 0 0], .int .i64 22])) ((W.setCell ⟨r, 0, none⟩ (.slice none 0 0)).setCell ⟨r, 1, none⟩ (.slice none 0 0)) := by
  have hbW : Below w3.heap.size w3 W := btO m7 S.B
  exact ⟨heap_set2O ((hbW.block _ (lt_of_block hr)).trans hr) _ _, putR_nil (((hb.trans (hbW.mono hb.size)).setCell (p := ⟨r, 0, none⟩) h0 _).setCell (p := ⟨r, 1, none⟩) h0 _)⟩
set_option maxRecDepth 100000 in
set_option maxHeartbeats 6400000 in
theorem rchoose_main (E : Ev) (pp n : ByteArray) (d : Int) (ff : Bool) (w : World) (hin : E.In w) (hl1 : E.cs.length ≤ 1000) (hl2 : E.fs.length ≤ 1000) (hE : ∀ W, Below w.heap.size w W → Calls Tryz.prog 30 #[E.val] W (IntRO 0 W))
    (hN : nameO n.data.toList = true) (hPn : nameO pp.data.toList = true) (hD : dayO d = true) (L : List Cx) (hL : rfL Cx.key (pp, n, d, ff) false E.cs = L) (hn : n.size ≤ 140737488351232) (hv : pp.size ≤ 140737488351232)
    (RL : List Cx) (RC : List Fx) (re : Int) (hres : (L.length ≤ 1000 ∧ RL = L ∧ RC = E.fs ∧ re = 0) ∨ (1000 < L.length ∧ RL = [] ∧ RC = [] ∧ re = 22)) :
    Calls Tryz.prog 27 #[E.val, .agg #[.string pp, .string n, .int .i64 d, .bool ff]] w (PutR RC RL re w) := by
  obtain ⟨iC, hiC, hzC, hsC, hbC⟩ := info_parts infoCx
  obtain ⟨iF, hiF, hzF, hsF, hbF⟩ := info_parts infoFx
  obtain ⟨fA, fs, fc, cA, cs, cc⟩ := E
  have HB1 := belO w (.cells #[.slice fA fs.length fc, .slice cA cs.length cc] 38)
  obtain ⟨w1, hw1⟩ : ∃ w1, w.alloc (.cells #[.slice fA fs.length fc, .slice cA cs.length cc] 38) = w1 := ⟨_, rfl⟩
  have a0 : w1.cell? ⟨w.heap.size, 0, none⟩ = some (.slice fA fs.length fc) := by rw [← hw1, World.cell?_alloc_at _ _ _ _ rfl]; rfl
  have a1 : w1.cell? ⟨w.heap.size, 1, none⟩ = some (.slice cA cs.length cc) := by rw [← hw1, World.cell?_alloc_at _ _ _ _ rfl]; rfl
  have hs1 : w1.heap.size = w.heap.size + 1 := by rw [← hw1, World.size_alloc]
  rw [hw1] at HB1
  have HB2 := belO w1 (.cells #[.string pp, .string n, .int .i64 d, .bool ff] 47)
  obtain ⟨w2, hw2⟩ : ∃ w2, w1.alloc (.cells #[.string pp, .string n, .int .i64 d, .bool ff] 47) = w2 := ⟨_, rfl⟩
  have b0 : w2.cell? ⟨w1.heap.size, 0, none⟩ = some (.string pp) := by rw [← hw2, World.cell?_alloc_at _ _ _ _ rfl]; rfl
  have b1 : w2.cell? ⟨w1.heap.size, 1, none⟩ = some (.string n) := by rw [← hw2, World.cell?_alloc_at _ _ _ _ rfl]; rfl
  have b2 : w2.cell? ⟨w1.heap.size, 2, none⟩ = some (.int .i64 d) := by rw [← hw2, World.cell?_alloc_at _ _ _ _ rfl]; rfl
  have b3 : w2.cell? ⟨w1.heap.size, 3, none⟩ = some (.bool ff) := by rw [← hw2, World.cell?_alloc_at _ _ _ _ rfl]; rfl
  have hs2 : w2.heap.size = w1.heap.size + 1 := by rw [← hw2, World.size_alloc]
  rw [hw2] at HB2
  have HB3 := belO w2 (.cells #[.slice none 0 0, .slice none 0 0] 38)
  obtain ⟨w3, hw3⟩ : ∃ w3, w2.alloc (.cells #[.slice none 0 0, .slice none 0 0] 38) = w3 := ⟨_, rfl⟩
  have hrow : w3.heap[w2.heap.size]? = some (.cells #[.slice none 0 0, .slice none 0 0] 38 (0, 0)) := by rw [← hw3]; exact heap_alloc_new w2 _
  have hs3 : w3.heap.size = w2.heap.size + 1 := by rw [← hw3, World.size_alloc]
  rw [hw3] at HB3
  have P3 := Lib.hid (show PuBC w.heap.size w1.heap.size w2.heap.size (.slice fA fs.length fc) (.slice cA cs.length cc) (.string pp) (.string n) (.int .i64 d) (.bool ff) w3 from ⟨cellO (btO HB2 HB3) a0, cellO (btO HB2 HB3) a1, cellO HB3 b0, cellO HB3 b1, cellO HB3 b2, cellO HB3 b3, row_cell (j := 0) hrow rfl, row_cell (j := 1) hrow rfl⟩)
  have HB := Lib.hid (btO HB1 (btO HB2 HB3))
  have HI := Lib.hid ((hin.below HB1).below (btO HB2 HB3))
  have HR := Lib.hid hrow
  have HE := Lib.hid hE
  have HN := Lib.hid (fun W => rname8_any n true hN W)
  have HD := Lib.hid (fun W => show Calls Tryz.prog 64 #[.int .i64 d] W fun e w' => e = .returned (.bool true) ∧ W = w' by rw [← hD]; exact rday_any d W)
  have HPn := Lib.hid (fun W => rname8_any pp true hPn W)
  have HSZ := Lib.hid (show w.heap.size < w1.heap.size ∧ w1.heap.size < w2.heap.size ∧ w2.heap.size < w3.heap.size by omega)
  have HFL := Lib.hid (show cs.length ≤ 1000 ∧ fs.length ≤ 1000 from ⟨hl1, hl2⟩)
  have HLL := Lib.hid hL
  have HRS := Lib.hid (show (L.length ≤ 1000 ∧ RL = L ∧ RC = fs ∧ re = 0) ∨ (1000 < L.length ∧ RL = [] ∧ RC = [] ∧ re = 22) from hres)
  have HCL := Lib.hid (show fs.length ≤ 9223372036854775807 ∧ fs.length * 40 ≤ 140737488355328 by have : fs.length ≤ 1000 := hl2; omega)
  show Calls Tryz.prog 27 #[.agg #[.slice fA fs.length fc, .slice cA cs.length cc], .agg #[.string pp, .string n, .int .i64 d, .bool ff]] w _
  clear hin hE hN hPn hD hL hres HB1 HB2 HB3 a0 a1 b0 b1 b2 b3 hrow hs1 hs2 hs3 hl1 hl2
  obtain ⟨e0, e1, f0, f1, f2, f3, r0, r1⟩ := P3.out
  go_enter Tryz.func27, Tryz.ntmps27
  go_wp2_with (first
    | (go_at_call 30; ((with_reducible refine (HE.out _ HB.out).mono ?_); rintro x w4 ⟨rfl, hb⟩; have M4 := Lib.hid hb; clear e0 e1 f0 f1 f2 f3 r0 r1; obtain ⟨e0, e1, f0, f1, f2, f3, r0, r1⟩ := P3.out.below hb; have g1 := fun o => cellO (belO w4 o) e0; clear hb))
    | (go_at_call 63; ((with_reducible refine (HPn.out _).mono ?_); rintro x w5 ⟨rfl, rfl⟩))
    | (go_at_call 63; ((with_reducible refine (HN.out _).mono ?_); rintro x w5 ⟨rfl, rfl⟩))
    | (go_at_call 64; ((with_reducible refine (HD.out _).mono ?_); rintro x w5 ⟨rfl, rfl⟩))
    | (at_builtin; refine wpList_appE (enc := fxC) (k := 3) fxC_len (by decide) rfl _ _ 35 rfl 44 iF _ 40 Tryz.underlying35 hiF hzF hsF hbF _ rfl fA fs.length fc fs rfl rfl (HI.out.f.below (btO M4.out (belO _ _))) HCL.out.1 HCL.out.2 ?_; intro A7 c7 w7 hp7 hn7 hb7; clear hp7; have M7 := Lib.hid (btO M4.out (btO (belO _ _) hb7)); have N7 := Lib.hid hn7; clear g1 e0 e1 f0 f1 f2 f3 r0 r1; obtain ⟨e0, e1, f0, f1, f2, f3, r0, r1⟩ := P3.out.below M7.out; clear hn7 hb7))
  clear hw1 hw2 hw3 e0 e1 f0 f1 f2 f3 r0 r1
  have h37 := M7.out.size
  go_loopw [7, 8] (fun p i wr => ∃ (k m : Nat) (A : Option Addr) (c : Nat) (P : List Cx) (pb : Bool), k ≤ cs.length ∧ m ≤ 2 * k ∧ p = .bool pb ∧ i = .int .i64 k ∧ Hid (P ++ rfL Cx.key (pp, n, d, ff) pb (cs.drop k) = L ∧ m = P.length) ∧ Hid (PuLC w7 (.slice A7 fs.length c7) wr A m c P)) (fun _ i _ => cs.length - (intOf i).toNat)
  case atStart => exact ⟨0, 0, none, 0, [], false, by omega, by omega, rfl, rfl, ⟨HLL.out, rfl⟩, PuLC.start _ _⟩
  case round =>
    obtain ⟨k, m, A, c, P, pb, hk, hm, rfl, rfl, HJ, HS⟩ := hrel
    have HP := Lib.hid (P3.out.below (btO M7.out HS.out.B))
    have h7r : w7.heap.size < wr.heap.size := lt_of_block HS.out.o
    have hfl := HFL.out.1
    have HM := Lib.hid HJ.out.2
    have e0 := HP.out.e1
    by_cases hlt : k < cs.length
    · obtain ⟨bb, o, eA, -, d0, d1, d2, d3⟩ := (HI.out.below (btO M7.out HS.out.B)).c.cx hlt
      simp only at eA d0 d1 d2 d3
      subst eA
      have HT := Lib.hid (rf_stepC hlt HJ.out.1)
      have hc := cxP_cases pp n d cs[k]
      have hk1 : (k : Int) < (cs.length : Int) := by omega
      generalize cs[k] = x at *
      obtain ⟨xp, xn, xd, xf⟩ := x
      simp only at d0 d1 d2 d3 hc
      obtain ⟨wx, hwx⟩ : ∃ wx, wr.alloc (.cells #[.string xp, .string xn, .int .i64 xd, .bool xf] 47) = wx := ⟨_, rfl⟩
      have bx : Below wr.heap.size wr wx := by rw [← hwx]; exact belO _ _
      have c0 : wx.cell? ⟨wr.heap.size, 0, none⟩ = some (.string xp) := by rw [← hwx, World.cell?_alloc_at _ _ _ _ rfl]; rfl
      have c1 : wx.cell? ⟨wr.heap.size, 1, none⟩ = some (.string xn) := by rw [← hwx, World.cell?_alloc_at _ _ _ _ rfl]; rfl
      have c2 : wx.cell? ⟨wr.heap.size, 2, none⟩ = some (.int .i64 xd) := by rw [← hwx, World.cell?_alloc_at _ _ _ _ rfl]; rfl
      have c3 : wx.cell? ⟨wr.heap.size, 3, none⟩ = some (.bool xf) := by rw [← hwx, World.cell?_alloc_at _ _ _ _ rfl]; rfl
      have BX := Lib.hid bx
      have f0 := (HP.out.below bx).f0
      have f1 := (HP.out.below bx).f1
      have f2 := (HP.out.below bx).f2
      have f3 := (HP.out.below bx).f3
      have ox : wx.cell? ⟨w7.heap.size, 1, none⟩ = some (.slice A m c) := row_cell (j := 1) (HS.out.to bx).o rfl
      obtain ⟨b, hb⟩ : ∃ b, ltK (Cx.key (xp, xn, xd, xf)) (Cx.key (pp, n, d, ff)) = b := ⟨_, rfl⟩
      have HFB := Lib.hid (fun W => show Calls Tryz.prog 67 #[.agg #[.string xp, .string xn, .int .i64 xd, .bool xf], .agg #[.string pp, .string n, .int .i64 d, .bool ff]] W (BoolRO b W) by rw [← hb]; exact pickBefore_any xp xn pp n xd d xf ff W)
      rw [hb] at HT
      clear hb bx HJ
      cases pb
      · cases b
        · rcases hc with ⟨h1, h2, h3, hq⟩ | ⟨hq, hc⟩
          · have HQ := Lib.hid (show (P ++ [(pp, n, d, ff)]) ++ rfL Cx.key (pp, n, d, ff) true (cs.drop (k + 1)) = L by have h := HT.out; rw [hq] at h; simpa [List.append_assoc] using h)
            clear HT hq
            obtain rfl := h1.symm
            obtain rfl := h2.symm
            obtain rfl := h3.symm
            clear h1 h2 h3
            go_wp2_with (first
              | (go_at_call 67; ((with_reducible refine (HFB.out _).mono ?_); rintro x wy ⟨rfl, hb⟩; have BY := Lib.hid (btO BX.out hb); have cy0 := cellO hb c0; have cy1 := cellO hb c1; have cy2 := cellO hb c2; have cy3 := cellO hb c3; have fy0 := cellO hb f0; have fy1 := cellO hb f1; have fy2 := cellO hb f2; have fy3 := cellO hb f3; have oy := cellO hb ox; clear hb))
              | (at_builtin; refine wpList_appR (PuLC.to HS.out BY.out).own (by decide) [.string pp, .string n, .int .i64 d, .bool ff] rfl rfl _ _ 36 rfl iC _ 48 Tryz.underlying36 hiC hzC hsC hbC rfl rfl rfl (cxC_one (pp, n, d, ff)) (by unfold maxLen; omega) (by omega) (Nat.succ_le_of_lt (lt_of_block (PuLC.to HS.out BY.out).o)) ?_; intro v' w8 hown hg; obtain ⟨A8, c8, rfl, -, -, -, -, -, -⟩ := RowsR.of_own (l := P ++ [(pp, n, d, ff)]) cxC_len (by decide) (by rw [rowsV_snoc]; exact hown); obtain ⟨hP, hcell, hblk⟩ := PuLC.app (x := (pp, n, d, ff)) HS.out BY.out hg hown; have o8 : w8.cell? ⟨w7.heap.size, 1, none⟩ = some (.slice A _ c) := row_cell (j := 1) hblk rfl; have z8 : w8.frozen? ⟨w7.heap.size, 1, none⟩ = false := row_frz (j := 1) hblk; obtain ⟨w9, hw9⟩ : ∃ w9, w8.setCell ⟨w7.heap.size, 1, none⟩ (.slice A8 (m + 1) c8) = w9 := ⟨_, rfl⟩; rw [hw9] at hP hcell; have S9 := Lib.hid hP; have c90 := hcell ⟨wr.heap.size, 0, none⟩ _ (Nat.le_refl _) cy0; have c91 := hcell ⟨wr.heap.size, 1, none⟩ _ (Nat.le_refl _) cy1; have c92 := hcell ⟨wr.heap.size, 2, none⟩ _ (Nat.le_refl _) cy2; have c93 := hcell ⟨wr.heap.size, 3, none⟩ _ (Nat.le_refl _) cy3; have P9 := P3.out.below (btO M7.out hP.B); have f90 := P9.f0; have f91 := P9.f1; have f92 := P9.f2; have f93 := P9.f3; have o9 : w9.cell? ⟨w7.heap.size, 1, none⟩ = some (.slice A8 (m + 1) c8) := row_cell (j := 1) hP.o rfl; clear hown hg hP hcell hblk P9))
            go_roundw
            case rel => exact ⟨k + 1, m + 1, A8, c8, (P ++ [(pp, n, d, ff)]), true, by omega, by omega, rfl, by go_num, ⟨HQ.out, by simp [HM.out]⟩, S9⟩
            case measure => simp [intOf]; omega
          · have HQ := Lib.hid (show (P ++ [(pp, n, d, ff)] ++ [(xp, xn, xd, xf)]) ++ rfL Cx.key (pp, n, d, ff) true (cs.drop (k + 1)) = L by have h := HT.out; rw [hq] at h; simpa [List.append_assoc] using h)
            clear HT hq
            rcases hc with hc | ⟨h1, hc⟩ | ⟨h1, h2, hc⟩
            all_goals (try have h1' : (xp.toList == pp.toList) = true := by rw [h1]; simp)
            all_goals (try have h2' : (xn.toList == n.toList) = true := by rw [h2]; simp)
            all_goals (try clear h2)
            all_goals (try clear h1)
            all_goals
              go_wp2_with (first
                | (go_at_call 67; ((with_reducible refine (HFB.out _).mono ?_); rintro x wy ⟨rfl, hb⟩; have BY := Lib.hid (btO BX.out hb); have cy0 := cellO hb c0; have cy1 := cellO hb c1; have cy2 := cellO hb c2; have cy3 := cellO hb c3; have fy0 := cellO hb f0; have fy1 := cellO hb f1; have fy2 := cellO hb f2; have fy3 := cellO hb f3; have oy := cellO hb ox; clear hb))
                | (at_builtin; refine wpList_appR S9.out.own (by decide) [.string xp, .string xn, .int .i64 xd, .bool xf] rfl rfl _ _ 36 rfl iC _ 48 Tryz.underlying36 hiC hzC hsC hbC rfl rfl rfl (cxC_one (xp, xn, xd, xf)) (by unfold maxLen; omega) (by omega) (Nat.succ_le_of_lt (lt_of_block S9.out.o)) ?_; intro v' w10 hown hg; obtain ⟨A10, c10, rfl, -, -, -, -, -, -⟩ := RowsR.of_own (l := P ++ [(pp, n, d, ff)] ++ [(xp, xn, xd, xf)]) cxC_len (by decide) (by rw [rowsV_snoc]; exact hown); obtain ⟨hP, -, hblk⟩ := PuLC.app (x := (xp, xn, xd, xf)) S9.out (Below.refl _ _) hg hown; have S11 := Lib.hid hP; have o10 : w10.cell? ⟨w7.heap.size, 1, none⟩ = some (.slice A8 (m + 1) c8) := row_cell (j := 1) hblk rfl; have z10 : w10.frozen? ⟨w7.heap.size, 1, none⟩ = false := row_frz (j := 1) hblk; clear hown hg hP hblk)
                | (at_builtin; refine wpList_appR (PuLC.to HS.out BY.out).own (by decide) [.string pp, .string n, .int .i64 d, .bool ff] rfl rfl _ _ 36 rfl iC _ 48 Tryz.underlying36 hiC hzC hsC hbC rfl rfl rfl (cxC_one (pp, n, d, ff)) (by unfold maxLen; omega) (by omega) (Nat.succ_le_of_lt (lt_of_block (PuLC.to HS.out BY.out).o)) ?_; intro v' w8 hown hg; obtain ⟨A8, c8, rfl, -, -, -, -, -, -⟩ := RowsR.of_own (l := P ++ [(pp, n, d, ff)]) cxC_len (by decide) (by rw [rowsV_snoc]; exact hown); obtain ⟨hP, hcell, hblk⟩ := PuLC.app (x := (pp, n, d, ff)) HS.out BY.out hg hown; have o8 : w8.cell? ⟨w7.heap.size, 1, none⟩ = some (.slice A _ c) := row_cell (j := 1) hblk rfl; have z8 : w8.frozen? ⟨w7.heap.size, 1, none⟩ = false := row_frz (j := 1) hblk; obtain ⟨w9, hw9⟩ : ∃ w9, w8.setCell ⟨w7.heap.size, 1, none⟩ (.slice A8 (m + 1) c8) = w9 := ⟨_, rfl⟩; rw [hw9] at hP hcell; have S9 := Lib.hid hP; have c90 := hcell ⟨wr.heap.size, 0, none⟩ _ (Nat.le_refl _) cy0; have c91 := hcell ⟨wr.heap.size, 1, none⟩ _ (Nat.le_refl _) cy1; have c92 := hcell ⟨wr.heap.size, 2, none⟩ _ (Nat.le_refl _) cy2; have c93 := hcell ⟨wr.heap.size, 3, none⟩ _ (Nat.le_refl _) cy3; have P9 := P3.out.below (btO M7.out hP.B); have f90 := P9.f0; have f91 := P9.f1; have f92 := P9.f2; have f93 := P9.f3; have o9 : w9.cell? ⟨w7.heap.size, 1, none⟩ = some (.slice A8 (m + 1) c8) := row_cell (j := 1) hP.o rfl; clear hown hg hP hcell hblk P9))
              go_roundw
              case rel => exact ⟨k + 1, m + 1 + 1, A10, c10, (P ++ [(pp, n, d, ff)] ++ [(xp, xn, xd, xf)]), true, by omega, by omega, rfl, by go_num, ⟨HQ.out, by simp [HM.out]⟩, S11⟩
              case measure => simp [intOf]; omega
        · rcases hc with ⟨h1, h2, h3, hq⟩ | ⟨hq, hc⟩
          · have HQ := Lib.hid (show P ++ rfL Cx.key (pp, n, d, ff) false (cs.drop (k + 1)) = L by have h := HT.out; rw [hq] at h; simpa [List.append_assoc] using h)
            clear HT hq
            obtain rfl := h1.symm
            obtain rfl := h2.symm
            obtain rfl := h3.symm
            clear h1 h2 h3
            go_wp2_with (first
              | (go_at_call 67; ((with_reducible refine (HFB.out _).mono ?_); rintro x wy ⟨rfl, hb⟩; have BY := Lib.hid (btO BX.out hb); have cy0 := cellO hb c0; have cy1 := cellO hb c1; have cy2 := cellO hb c2; have cy3 := cellO hb c3; have fy0 := cellO hb f0; have fy1 := cellO hb f1; have fy2 := cellO hb f2; have fy3 := cellO hb f3; have oy := cellO hb ox; clear hb)))
            go_roundw
            case rel => exact ⟨k + 1, m, A, c, P, false, by omega, by omega, rfl, by go_num, ⟨HQ.out, by simp [HM.out]⟩, HS.out.to BY.out⟩
            case measure => simp [intOf]; omega
          · have HQ := Lib.hid (show (P ++ [(xp, xn, xd, xf)]) ++ rfL Cx.key (pp, n, d, ff) false (cs.drop (k + 1)) = L by have h := HT.out; rw [hq] at h; simpa [List.append_assoc] using h)
            clear HT hq
            rcases hc with hc | ⟨h1, hc⟩ | ⟨h1, h2, hc⟩
            all_goals (try have h1' : (xp.toList == pp.toList) = true := by rw [h1]; simp)
            all_goals (try have h2' : (xn.toList == n.toList) = true := by rw [h2]; simp)
            all_goals (try clear h2)
            all_goals (try clear h1)
            all_goals
              go_wp2_with (first
                | (go_at_call 67; ((with_reducible refine (HFB.out _).mono ?_); rintro x wy ⟨rfl, hb⟩; have BY := Lib.hid (btO BX.out hb); have cy0 := cellO hb c0; have cy1 := cellO hb c1; have cy2 := cellO hb c2; have cy3 := cellO hb c3; have fy0 := cellO hb f0; have fy1 := cellO hb f1; have fy2 := cellO hb f2; have fy3 := cellO hb f3; have oy := cellO hb ox; clear hb))
                | (at_builtin; refine wpList_appR (PuLC.to HS.out BY.out).own (by decide) [.string xp, .string xn, .int .i64 xd, .bool xf] rfl rfl _ _ 36 rfl iC _ 48 Tryz.underlying36 hiC hzC hsC hbC rfl rfl rfl (cxC_one (xp, xn, xd, xf)) (by unfold maxLen; omega) (by omega) (Nat.succ_le_of_lt (lt_of_block (PuLC.to HS.out BY.out).o)) ?_; intro v' w8 hown hg; obtain ⟨A8, c8, rfl, -, -, -, -, -, -⟩ := RowsR.of_own (l := P ++ [(xp, xn, xd, xf)]) cxC_len (by decide) (by rw [rowsV_snoc]; exact hown); obtain ⟨hP, hcell, hblk⟩ := PuLC.app (x := (xp, xn, xd, xf)) HS.out BY.out hg hown; have o8 : w8.cell? ⟨w7.heap.size, 1, none⟩ = some (.slice A _ c) := row_cell (j := 1) hblk rfl; have z8 : w8.frozen? ⟨w7.heap.size, 1, none⟩ = false := row_frz (j := 1) hblk; obtain ⟨w9, hw9⟩ : ∃ w9, w8.setCell ⟨w7.heap.size, 1, none⟩ (.slice A8 (m + 1) c8) = w9 := ⟨_, rfl⟩; rw [hw9] at hP hcell; have S9 := Lib.hid hP; have c90 := hcell ⟨wr.heap.size, 0, none⟩ _ (Nat.le_refl _) cy0; have c91 := hcell ⟨wr.heap.size, 1, none⟩ _ (Nat.le_refl _) cy1; have c92 := hcell ⟨wr.heap.size, 2, none⟩ _ (Nat.le_refl _) cy2; have c93 := hcell ⟨wr.heap.size, 3, none⟩ _ (Nat.le_refl _) cy3; have P9 := P3.out.below (btO M7.out hP.B); have f90 := P9.f0; have f91 := P9.f1; have f92 := P9.f2; have f93 := P9.f3; have o9 : w9.cell? ⟨w7.heap.size, 1, none⟩ = some (.slice A8 (m + 1) c8) := row_cell (j := 1) hP.o rfl; clear hown hg hP hcell hblk P9))
              go_roundw
              case rel => exact ⟨k + 1, m + 1, A8, c8, (P ++ [(xp, xn, xd, xf)]), false, by omega, by omega, rfl, by go_num, ⟨HQ.out, by simp [HM.out]⟩, S9⟩
              case measure => simp [intOf]; omega
      · rcases hc with ⟨h1, h2, h3, hq⟩ | ⟨hq, hc⟩
        · have HQ := Lib.hid (show P ++ rfL Cx.key (pp, n, d, ff) true (cs.drop (k + 1)) = L by have h := HT.out; rw [hq] at h; simpa [List.append_assoc] using h)
          clear HT hq
          obtain rfl := h1.symm
          obtain rfl := h2.symm
          obtain rfl := h3.symm
          clear h1 h2 h3
          go_wp2_with (fail)
          go_roundw
          case rel => exact ⟨k + 1, m, A, c, P, true, by omega, by omega, rfl, by go_num, ⟨HQ.out, by simp [HM.out]⟩, HS.out.to BX.out⟩
          case measure => simp [intOf]; omega
        · have HQ := Lib.hid (show (P ++ [(xp, xn, xd, xf)]) ++ rfL Cx.key (pp, n, d, ff) true (cs.drop (k + 1)) = L by have h := HT.out; rw [hq] at h; simpa [List.append_assoc] using h)
          clear HT hq
          rcases hc with hc | ⟨h1, hc⟩ | ⟨h1, h2, hc⟩
          all_goals (try have h1' : (xp.toList == pp.toList) = true := by rw [h1]; simp)
          all_goals (try have h2' : (xn.toList == n.toList) = true := by rw [h2]; simp)
          all_goals (try clear h2)
          all_goals (try clear h1)
          all_goals
            go_wp2_with (first
              | (at_builtin; refine wpList_appR (PuLC.to HS.out BX.out).own (by decide) [.string xp, .string xn, .int .i64 xd, .bool xf] rfl rfl _ _ 36 rfl iC _ 48 Tryz.underlying36 hiC hzC hsC hbC rfl rfl rfl (cxC_one (xp, xn, xd, xf)) (by unfold maxLen; omega) (by omega) (Nat.succ_le_of_lt (lt_of_block (PuLC.to HS.out BX.out).o)) ?_; intro v' w8 hown hg; obtain ⟨A8, c8, rfl, -, -, -, -, -, -⟩ := RowsR.of_own (l := P ++ [(xp, xn, xd, xf)]) cxC_len (by decide) (by rw [rowsV_snoc]; exact hown); obtain ⟨hP, hcell, hblk⟩ := PuLC.app (x := (xp, xn, xd, xf)) HS.out BX.out hg hown; have o8 : w8.cell? ⟨w7.heap.size, 1, none⟩ = some (.slice A _ c) := row_cell (j := 1) hblk rfl; have z8 : w8.frozen? ⟨w7.heap.size, 1, none⟩ = false := row_frz (j := 1) hblk; obtain ⟨w9, hw9⟩ : ∃ w9, w8.setCell ⟨w7.heap.size, 1, none⟩ (.slice A8 (m + 1) c8) = w9 := ⟨_, rfl⟩; rw [hw9] at hP hcell; have S9 := Lib.hid hP; have c90 := hcell ⟨wr.heap.size, 0, none⟩ _ (Nat.le_refl _) c0; have c91 := hcell ⟨wr.heap.size, 1, none⟩ _ (Nat.le_refl _) c1; have c92 := hcell ⟨wr.heap.size, 2, none⟩ _ (Nat.le_refl _) c2; have c93 := hcell ⟨wr.heap.size, 3, none⟩ _ (Nat.le_refl _) c3; have P9 := P3.out.below (btO M7.out hP.B); have f90 := P9.f0; have f91 := P9.f1; have f92 := P9.f2; have f93 := P9.f3; have o9 : w9.cell? ⟨w7.heap.size, 1, none⟩ = some (.slice A8 (m + 1) c8) := row_cell (j := 1) hP.o rfl; clear hown hg hP hcell hblk P9))
            go_roundw
            case rel => exact ⟨k + 1, m + 1, A8, c8, (P ++ [(xp, xn, xd, xf)]), true, by omega, by omega, rfl, by go_num, ⟨HQ.out, by simp [HM.out]⟩, S9⟩
            case measure => simp [intOf]; omega
    · obtain rfl : k = cs.length := by omega
      obtain ⟨-, -, f0, f1, f2, f3, r0, r1⟩ := HP.out
      have ox : wr.cell? ⟨w7.heap.size, 1, none⟩ = some (.slice A m c) := row_cell (j := 1) HS.out.o rfl
      have ox1 : wr.cell? ⟨w7.heap.size, 0, none⟩ = some (.slice A7 fs.length c7) := row_cell (j := 0) HS.out.o rfl
      have hrr : wr.heap[w2.heap.size]? = some (.cells #[.slice none 0 0, .slice none 0 0] 38 (0, 0)) := ((btO M7.out HS.out.B).block _ (lt_of_block HR.out)).trans HR.out
      have t0 := row_frz (j := 0) hrr
      have t1 := row_frz (j := 1) hrr
      have HRR := Lib.hid hrr
      have BR := Lib.hid (Below.refl wr.heap.size wr)
      clear hrr
      cases pb
      · have HT := Lib.hid (show P ++ [(pp, n, d, ff)] = L by have h := HJ.out.1; rw [List.drop_length] at h; simpa [rfL] using h)
        have hln : L.length = m + 1 := by rw [← HT.out, HM.out]; simp
        have hrs := HRS.out
        clear HJ HRS
        rcases hrs with ⟨hl, rfl, rfl, rfl⟩ | ⟨hl, rfl, rfl, rfl⟩
        · have hl' : (m : Int) + 1 ≤ 1000 := by omega
          go_wp2_with (first
            | (at_builtin; refine wpList_appR (PuLC.to HS.out BR.out).own (by decide) [.string pp, .string n, .int .i64 d, .bool ff] rfl rfl _ _ 36 rfl iC _ 48 Tryz.underlying36 hiC hzC hsC hbC rfl rfl rfl (cxC_one (pp, n, d, ff)) (by unfold maxLen; omega) (by omega) (Nat.succ_le_of_lt (lt_of_block (PuLC.to HS.out BR.out).o)) ?_; intro v' w8 hown hg; obtain ⟨A8, c8, rfl, -, -, -, -, -, -⟩ := RowsR.of_own (l := P ++ [(pp, n, d, ff)]) cxC_len (by decide) (by rw [rowsV_snoc]; exact hown); obtain ⟨hP, hcell, hblk⟩ := PuLC.app (x := (pp, n, d, ff)) HS.out BR.out hg hown; have o8 : w8.cell? ⟨w7.heap.size, 1, none⟩ = some (.slice A _ c) := row_cell (j := 1) hblk rfl; have z8 : w8.frozen? ⟨w7.heap.size, 1, none⟩ = false := row_frz (j := 1) hblk; obtain ⟨w9, hw9⟩ : ∃ w9, w8.setCell ⟨w7.heap.size, 1, none⟩ (.slice A8 (m + 1) c8) = w9 := ⟨_, rfl⟩; rw [hw9] at hP hcell; have S9 := Lib.hid hP; have P9 := P3.out.below (btO M7.out hP.B); have r90 := P9.r0; have r91 := P9.r1; have o9 : w9.cell? ⟨w7.heap.size, 1, none⟩ = some (.slice A8 (m + 1) c8) := row_cell (j := 1) hP.o rfl; have o91 : w9.cell? ⟨w7.heap.size, 0, none⟩ = some (.slice A7 _ c7) := row_cell (j := 0) hP.o rfl; have hr9 := ((btO M7.out S9.out.B).block _ (lt_of_block HR.out)).trans HR.out; have t90 := row_frz (j := 0) hr9; have t91 := row_frz (j := 1) hr9; clear hown hg hP hcell hblk P9 hr9))
          have E := put_endC S9.out HB.out M7.out HI.out HR.out N7.out (by have := HSZ.out; omega) (by have := HSZ.out; have := M4.out.size; rw [World.size_alloc]; omega) (by have := lt_of_block HR.out; have := M7.out.size; omega) (show P ++ [(pp, n, d, ff)] = RL from HT.out) hln hl hn hv HLL.out
          refine bodyPost_ret (results_row_tmpO rfl _ _ w2.heap.size 38 _ (0, 0) _ (.int .i64 0) rfl rfl E.1 Tryz.underlying38 (by kernel_rfl) (by kernel_rfl)) rfl E.2
        · have hl' : (1000 : Int) < (m : Int) + 1 := by omega
          go_wp2_with (first
            | (at_builtin; refine wpList_appR (PuLC.to HS.out BR.out).own (by decide) [.string pp, .string n, .int .i64 d, .bool ff] rfl rfl _ _ 36 rfl iC _ 48 Tryz.underlying36 hiC hzC hsC hbC rfl rfl rfl (cxC_one (pp, n, d, ff)) (by unfold maxLen; omega) (by omega) (Nat.succ_le_of_lt (lt_of_block (PuLC.to HS.out BR.out).o)) ?_; intro v' w8 hown hg; obtain ⟨A8, c8, rfl, -, -, -, -, -, -⟩ := RowsR.of_own (l := P ++ [(pp, n, d, ff)]) cxC_len (by decide) (by rw [rowsV_snoc]; exact hown); obtain ⟨hP, hcell, hblk⟩ := PuLC.app (x := (pp, n, d, ff)) HS.out BR.out hg hown; have o8 : w8.cell? ⟨w7.heap.size, 1, none⟩ = some (.slice A _ c) := row_cell (j := 1) hblk rfl; have z8 : w8.frozen? ⟨w7.heap.size, 1, none⟩ = false := row_frz (j := 1) hblk; obtain ⟨w9, hw9⟩ : ∃ w9, w8.setCell ⟨w7.heap.size, 1, none⟩ (.slice A8 (m + 1) c8) = w9 := ⟨_, rfl⟩; rw [hw9] at hP hcell; have S9 := Lib.hid hP; have P9 := P3.out.below (btO M7.out hP.B); have r90 := P9.r0; have r91 := P9.r1; have o9 : w9.cell? ⟨w7.heap.size, 1, none⟩ = some (.slice A8 (m + 1) c8) := row_cell (j := 1) hP.o rfl; have o91 : w9.cell? ⟨w7.heap.size, 0, none⟩ = some (.slice A7 _ c7) := row_cell (j := 0) hP.o rfl; have hr9 := ((btO M7.out S9.out.B).block _ (lt_of_block HR.out)).trans HR.out; have t90 := row_frz (j := 0) hr9; have t91 := row_frz (j := 1) hr9; clear hown hg hP hcell hblk P9 hr9))
          have E := put_fullC S9.out HB.out M7.out HR.out (by have := HSZ.out; omega)
          refine bodyPost_ret (results_row_tmpO rfl _ _ w2.heap.size 38 _ (0, 0) _ (.int .i64 22) rfl rfl E.1 Tryz.underlying38 (by kernel_rfl) (by kernel_rfl)) rfl E.2
      · have HT := Lib.hid (show P = L by have h := HJ.out.1; rw [List.drop_length] at h; simpa [rfL] using h)
        have hln : L.length = m := by rw [← HT.out, HM.out]
        have hrs := HRS.out
        clear HJ HRS
        rcases hrs with ⟨hl, rfl, rfl, rfl⟩ | ⟨hl, rfl, rfl, rfl⟩
        · have hl' : (m : Int) ≤ 1000 := by omega
          go_wp2_with (fail)
          have E := put_endC HS.out HB.out M7.out HI.out HR.out N7.out (by have := HSZ.out; omega) (by have := HSZ.out; have := M4.out.size; rw [World.size_alloc]; omega) (by have := lt_of_block HR.out; have := M7.out.size; omega) (show P = RL from HT.out) hln hl hn hv HLL.out
          refine bodyPost_ret (results_row_tmpO rfl _ _ w2.heap.size 38 _ (0, 0) _ (.int .i64 0) rfl rfl E.1 Tryz.underlying38 (by kernel_rfl) (by kernel_rfl)) rfl E.2
        · have hl' : (1000 : Int) < (m : Int) := by omega
          go_wp2_with (fail)
          have E := put_fullC HS.out HB.out M7.out HR.out (by have := HSZ.out; omega)
          refine bodyPost_ret (results_row_tmpO rfl _ _ w2.heap.size 38 _ (0, 0) _ (.int .i64 22) rfl rfl E.1 Tryz.underlying38 (by kernel_rfl) (by kernel_rfl)) rfl E.2
end Go.Proofs.YtbfimfjhdbpenaaGreatDoor
/- Layer 8, plain: what is found after a thing has been put; the order's check. -/
namespace Go.Proofs.YtbfimfjhdbpenaaGreatDoor
open Go Go.RowKit
end Go.Proofs.YtbfimfjhdbpenaaGreatDoor
/- Layer 8: Choose of the reference where it refuses; joined. -/
namespace Go.Proofs.YtbfimfjhdbpenaaGreatDoor
open Go Go.RowKit Go.BigFrame
set_option maxRecDepth 100000 in
set_option maxHeartbeats 6400000 in
theorem rchoose_bad (E : Ev) (pp n : ByteArray) (d : Int) (ff : Bool) (w : World) (hin : E.In w) (ve e : Int) (bP bN bD : Bool) (hE : ∀ W, Below w.heap.size w W → Calls Tryz.prog 30 #[E.val] W (IntRO ve W))
    (hN : nameO n.data.toList = bN) (hPn : nameO pp.data.toList = bP) (hD : dayO d = bD) (hcase : (¬ ve = 0 ∧ e = ve) ∨ (ve = 0 ∧ bP = false ∧ e = 2) ∨ (ve = 0 ∧ bP = true ∧ bN = false ∧ e = 2) ∨ (ve = 0 ∧ bP = true ∧ bN = true ∧ bD = false ∧ e = 2)) :
    Calls Tryz.prog 27 #[E.val, .agg #[.string pp, .string n, .int .i64 d, .bool ff]] w (PutR [] [] e w) := by
  obtain ⟨fA, fs, fc, cA, cs, cc⟩ := E
  have HB1 := belO w (.cells #[.slice fA fs.length fc, .slice cA cs.length cc] 38)
  obtain ⟨w1, hw1⟩ : ∃ w1, w.alloc (.cells #[.slice fA fs.length fc, .slice cA cs.length cc] 38) = w1 := ⟨_, rfl⟩
  have a0 : w1.cell? ⟨w.heap.size, 0, none⟩ = some (.slice fA fs.length fc) := by rw [← hw1, World.cell?_alloc_at _ _ _ _ rfl]; rfl
  have a1 : w1.cell? ⟨w.heap.size, 1, none⟩ = some (.slice cA cs.length cc) := by rw [← hw1, World.cell?_alloc_at _ _ _ _ rfl]; rfl
  have hs1 : w1.heap.size = w.heap.size + 1 := by rw [← hw1, World.size_alloc]
  rw [hw1] at HB1
  have HB2 := belO w1 (.cells #[.string pp, .string n, .int .i64 d, .bool ff] 47)
  obtain ⟨w2, hw2⟩ : ∃ w2, w1.alloc (.cells #[.string pp, .string n, .int .i64 d, .bool ff] 47) = w2 := ⟨_, rfl⟩
  have b0 : w2.cell? ⟨w1.heap.size, 0, none⟩ = some (.string pp) := by rw [← hw2, World.cell?_alloc_at _ _ _ _ rfl]; rfl
  have b1 : w2.cell? ⟨w1.heap.size, 1, none⟩ = some (.string n) := by rw [← hw2, World.cell?_alloc_at _ _ _ _ rfl]; rfl
  have b2 : w2.cell? ⟨w1.heap.size, 2, none⟩ = some (.int .i64 d) := by rw [← hw2, World.cell?_alloc_at _ _ _ _ rfl]; rfl
  have b3 : w2.cell? ⟨w1.heap.size, 3, none⟩ = some (.bool ff) := by rw [← hw2, World.cell?_alloc_at _ _ _ _ rfl]; rfl
  have hs2 : w2.heap.size = w1.heap.size + 1 := by rw [← hw2, World.size_alloc]
  rw [hw2] at HB2
  have HB3 := belO w2 (.cells #[.slice none 0 0, .slice none 0 0] 38)
  obtain ⟨w3, hw3⟩ : ∃ w3, w2.alloc (.cells #[.slice none 0 0, .slice none 0 0] 38) = w3 := ⟨_, rfl⟩
  have hrow : w3.heap[w2.heap.size]? = some (.cells #[.slice none 0 0, .slice none 0 0] 38 (0, 0)) := by rw [← hw3]; exact heap_alloc_new w2 _
  have hs3 : w3.heap.size = w2.heap.size + 1 := by rw [← hw3, World.size_alloc]
  rw [hw3] at HB3
  have P3 := Lib.hid (show PuBC w.heap.size w1.heap.size w2.heap.size (.slice fA fs.length fc) (.slice cA cs.length cc) (.string pp) (.string n) (.int .i64 d) (.bool ff) w3 from ⟨cellO (btO HB2 HB3) a0, cellO (btO HB2 HB3) a1, cellO HB3 b0, cellO HB3 b1, cellO HB3 b2, cellO HB3 b3, row_cell (j := 0) hrow rfl, row_cell (j := 1) hrow rfl⟩)
  have HB := Lib.hid (btO HB1 (btO HB2 HB3))
  have HI := Lib.hid ((hin.below HB1).below (btO HB2 HB3))
  have HR := Lib.hid hrow
  have HE := Lib.hid hE
  have HN := Lib.hid (fun W => rname8_any n bN hN W)
  have HD := Lib.hid (fun W => show Calls Tryz.prog 64 #[.int .i64 d] W fun e w' => e = .returned (.bool bD) ∧ W = w' by rw [← hD]; exact rday_any d W)
  have HPn := Lib.hid (fun W => rname8_any pp bP hPn W)
  have HSZ := Lib.hid (show w.heap.size < w1.heap.size ∧ w1.heap.size < w2.heap.size ∧ w2.heap.size < w3.heap.size by omega)
  show Calls Tryz.prog 27 #[.agg #[.slice fA fs.length fc, .slice cA cs.length cc], .agg #[.string pp, .string n, .int .i64 d, .bool ff]] w _
  clear hin hE hN hPn hD HB1 HB2 HB3 a0 a1 b0 b1 b2 b3 hrow hs1 hs2 hs3
  obtain ⟨e0, e1, f0, f1, f2, f3, r0, r1⟩ := P3.out
  have t0 := row_frz (j := 0) HR.out
  have t1 := row_frz (j := 1) HR.out
  rcases hcase with ⟨h1, rfl⟩ | ⟨rfl, rfl, rfl⟩ | ⟨rfl, rfl, rfl, rfl⟩ | ⟨rfl, rfl, rfl, rfl, rfl⟩
  · have h1' : (e == 0) = false := by rw [beq_eq_false_iff_ne]; exact h1
    go_enter Tryz.func27, Tryz.ntmps27
    go_wp2_with (first
      | (go_at_call 30; ((with_reducible refine (HE.out _ (btO HB.out M4.out)).mono ?_); rintro x w6 ⟨rfl, hb⟩; have M6 := Lib.hid (btO M4.out hb); clear hb e0 e1 f0 f1 f2 f3 r0 r1 t0 t1; obtain ⟨e0, e1, f0, f1, f2, f3, r0, r1⟩ := P3.out.below M6.out; have hr6 := (M6.out.block _ (lt_of_block HR.out)).trans HR.out; have t0 := row_frz (j := 0) hr6; have t1 := row_frz (j := 1) hr6; have R6 := Lib.hid hr6; clear hr6))
      | (go_at_call 30; ((with_reducible refine (HE.out _ HB.out).mono ?_); rintro x w4 ⟨rfl, hb⟩; have M4 := Lib.hid (hb); clear hb e0 e1 f0 f1 f2 f3 r0 r1 t0 t1; obtain ⟨e0, e1, f0, f1, f2, f3, r0, r1⟩ := P3.out.below M4.out; have hr4 := (M4.out.block _ (lt_of_block HR.out)).trans HR.out; have t0 := row_frz (j := 0) hr4; have t1 := row_frz (j := 1) hr4; have R4 := Lib.hid hr4; clear hr4)))
    refine bodyPost_ret (results_row_tmpO rfl _ _ w2.heap.size 38 _ (0, 0) _ (.int .i64 e) rfl rfl (heap_set2O R6.out _ _) Tryz.underlying38 (by kernel_rfl) (by kernel_rfl)) rfl ?_
    exact putR_nil (((HB.out.trans (M6.out.mono HB.out.size)).setCell (p := ⟨w2.heap.size, 0, none⟩) (by show w.heap.size ≤ w2.heap.size; have := HSZ.out; omega) _).setCell (p := ⟨w2.heap.size, 1, none⟩) (by show w.heap.size ≤ w2.heap.size; have := HSZ.out; omega) _)
  · skip
    go_enter Tryz.func27, Tryz.ntmps27
    go_wp2_with (first
      | (go_at_call 30; ((with_reducible refine (HE.out _ HB.out).mono ?_); rintro x w4 ⟨rfl, hb⟩; have M4 := Lib.hid (hb); clear hb e0 e1 f0 f1 f2 f3 r0 r1 t0 t1; obtain ⟨e0, e1, f0, f1, f2, f3, r0, r1⟩ := P3.out.below M4.out; have hr4 := (M4.out.block _ (lt_of_block HR.out)).trans HR.out; have t0 := row_frz (j := 0) hr4; have t1 := row_frz (j := 1) hr4; have R4 := Lib.hid hr4; clear hr4))
      | (go_at_call 63; ((with_reducible refine (HPn.out _).mono ?_); rintro x w5 ⟨rfl, rfl⟩)))
    refine bodyPost_ret (results_row_tmpO rfl _ _ w2.heap.size 38 _ (0, 0) _ (.int .i64 2) rfl rfl (heap_set2O R4.out _ _) Tryz.underlying38 (by kernel_rfl) (by kernel_rfl)) rfl ?_
    exact putR_nil (((HB.out.trans (M4.out.mono HB.out.size)).setCell (p := ⟨w2.heap.size, 0, none⟩) (by show w.heap.size ≤ w2.heap.size; have := HSZ.out; omega) _).setCell (p := ⟨w2.heap.size, 1, none⟩) (by show w.heap.size ≤ w2.heap.size; have := HSZ.out; omega) _)
  · skip
    go_enter Tryz.func27, Tryz.ntmps27
    go_wp2_with (first
      | (go_at_call 30; ((with_reducible refine (HE.out _ HB.out).mono ?_); rintro x w4 ⟨rfl, hb⟩; have M4 := Lib.hid (hb); clear hb e0 e1 f0 f1 f2 f3 r0 r1 t0 t1; obtain ⟨e0, e1, f0, f1, f2, f3, r0, r1⟩ := P3.out.below M4.out; have hr4 := (M4.out.block _ (lt_of_block HR.out)).trans HR.out; have t0 := row_frz (j := 0) hr4; have t1 := row_frz (j := 1) hr4; have R4 := Lib.hid hr4; clear hr4))
      | (go_at_call 63; ((with_reducible refine (HPn.out _).mono ?_); rintro x w5 ⟨rfl, rfl⟩))
      | (go_at_call 63; ((with_reducible refine (HN.out _).mono ?_); rintro x w5 ⟨rfl, rfl⟩)))
    refine bodyPost_ret (results_row_tmpO rfl _ _ w2.heap.size 38 _ (0, 0) _ (.int .i64 2) rfl rfl (heap_set2O R4.out _ _) Tryz.underlying38 (by kernel_rfl) (by kernel_rfl)) rfl ?_
    exact putR_nil (((HB.out.trans (M4.out.mono HB.out.size)).setCell (p := ⟨w2.heap.size, 0, none⟩) (by show w.heap.size ≤ w2.heap.size; have := HSZ.out; omega) _).setCell (p := ⟨w2.heap.size, 1, none⟩) (by show w.heap.size ≤ w2.heap.size; have := HSZ.out; omega) _)
  · skip
    go_enter Tryz.func27, Tryz.ntmps27
    go_wp2_with (first
      | (go_at_call 30; ((with_reducible refine (HE.out _ HB.out).mono ?_); rintro x w4 ⟨rfl, hb⟩; have M4 := Lib.hid (hb); clear hb e0 e1 f0 f1 f2 f3 r0 r1 t0 t1; obtain ⟨e0, e1, f0, f1, f2, f3, r0, r1⟩ := P3.out.below M4.out; have hr4 := (M4.out.block _ (lt_of_block HR.out)).trans HR.out; have t0 := row_frz (j := 0) hr4; have t1 := row_frz (j := 1) hr4; have R4 := Lib.hid hr4; clear hr4))
      | (go_at_call 63; ((with_reducible refine (HPn.out _).mono ?_); rintro x w5 ⟨rfl, rfl⟩))
      | (go_at_call 63; ((with_reducible refine (HN.out _).mono ?_); rintro x w5 ⟨rfl, rfl⟩))
      | (go_at_call 64; ((with_reducible refine (HD.out _).mono ?_); rintro x w5 ⟨rfl, rfl⟩)))
    refine bodyPost_ret (results_row_tmpO rfl _ _ w2.heap.size 38 _ (0, 0) _ (.int .i64 2) rfl rfl (heap_set2O R4.out _ _) Tryz.underlying38 (by kernel_rfl) (by kernel_rfl)) rfl ?_
    exact putR_nil (((HB.out.trans (M4.out.mono HB.out.size)).setCell (p := ⟨w2.heap.size, 0, none⟩) (by show w.heap.size ≤ w2.heap.size; have := HSZ.out; omega) _).setCell (p := ⟨w2.heap.size, 1, none⟩) (by show w.heap.size ≤ w2.heap.size; have := HSZ.out; omega) _)
def choE (fs : List Fx) (cs : List Cx) (c : Cx) : Int := if envE fs cs ≠ 0 then envE fs cs else if (nameO c.1.data.toList && nameO c.2.1.data.toList && dayO c.2.2.1) = false then 2 else if 1000 < (insL Cx.key c cs).length then 22 else 0
def choFL (fs : List Fx) (cs : List Cx) (c : Cx) : List Fx := if choE fs cs c = 0 then fs else []
def choCL (fs : List Fx) (cs : List Cx) (c : Cx) : List Cx := if choE fs cs c = 0 then insL Cx.key c cs else []
theorem rchoose_any (E : Ev) (pp n : ByteArray) (d : Int) (ff : Bool) (w : World) (hin : E.In w) (hsf : ∀ f ∈ E.fs, f.2.2.size ≤ 1048576) (hn : n.size ≤ 140737488351232) (hv : pp.size ≤ 140737488351232) :
    Calls Tryz.prog 27 #[E.val, .agg #[.string pp, .string n, .int .i64 d, .bool ff]] w (PutR (choFL E.fs E.cs (pp, n, d, ff)) (choCL E.fs E.cs (pp, n, d, ff)) (choE E.fs E.cs (pp, n, d, ff)) w) := by
  have hE : ∀ W, Below w.heap.size w W → Calls Tryz.prog 30 #[E.val] W (IntRO (envE E.fs E.cs) W) := fun W hW => rcheckEnv_any E W (hin.below hW) hsf
  have bad : ∀ e, choE E.fs E.cs (pp, n, d, ff) = e → ¬ e = 0 → Calls Tryz.prog 27 #[E.val, .agg #[.string pp, .string n, .int .i64 d, .bool ff]] w (PutR [] [] e w) → Calls Tryz.prog 27 #[E.val, .agg #[.string pp, .string n, .int .i64 d, .bool ff]] w (PutR (choFL E.fs E.cs (pp, n, d, ff)) (choCL E.fs E.cs (pp, n, d, ff)) (choE E.fs E.cs (pp, n, d, ff)) w) := fun e h1 h2 h => by
    unfold choFL choCL
    rw [h1, if_neg h2, if_neg h2]
    exact h
  have hdef : choE E.fs E.cs (pp, n, d, ff) = if envE E.fs E.cs ≠ 0 then envE E.fs E.cs else if (nameO pp.data.toList && nameO n.data.toList && dayO d) = false then 2 else if 1000 < (insL Cx.key (pp, n, d, ff) E.cs).length then 22 else 0 := rfl
  by_cases h1 : envE E.fs E.cs = 0
  · rw [if_neg (by simp [h1])] at hdef
    rw [h1] at hE
    cases hP : nameO pp.data.toList
    · rw [hP, Bool.false_and, Bool.false_and, if_pos rfl] at hdef
      exact bad 2 hdef (by decide) (rchoose_bad E pp n d ff w hin 0 2 false _ _ hE rfl hP rfl (.inr (.inl ⟨rfl, rfl, rfl⟩)))
    · cases hN : nameO n.data.toList
      · rw [hP, hN, Bool.and_false, Bool.false_and, if_pos rfl] at hdef
        exact bad 2 hdef (by decide) (rchoose_bad E pp n d ff w hin 0 2 true false _ hE hN hP rfl (.inr (.inr (.inl ⟨rfl, rfl, rfl, rfl⟩))))
      · cases hD : dayO d
        · rw [hP, hN, hD, Bool.and_false, if_pos rfl] at hdef
          exact bad 2 hdef (by decide) (rchoose_bad E pp n d ff w hin 0 2 true true false hE hN hP hD (.inr (.inr (.inr ⟨rfl, rfl, rfl, rfl, rfl⟩))))
        · rw [hP, hN, hD, Bool.and_true, Bool.and_true, if_neg (by decide)] at hdef
          obtain ⟨l1, l2, o1, o2⟩ := envE_zero h1
          have hL := rfL_eq (key := Cx.key) (x := (pp, n, d, ff)) E.cs (inc_of o2).1
          refine (rchoose_main E pp n d ff w hin l2 l1 hE hN hP hD _ hL hn hv (choCL E.fs E.cs (pp, n, d, ff)) (choFL E.fs E.cs (pp, n, d, ff)) (choE E.fs E.cs (pp, n, d, ff)) ?_)
          unfold choFL choCL
          by_cases h3 : 1000 < (insL Cx.key (pp, n, d, ff) E.cs).length
          · rw [if_pos h3] at hdef
            rw [hdef]
            exact .inr ⟨h3, rfl, rfl, rfl⟩
          · rw [if_neg h3] at hdef
            rw [hdef]
            exact .inl ⟨by omega, rfl, rfl, rfl⟩
  · rw [if_pos h1] at hdef
    exact bad _ hdef h1 (rchoose_bad E pp n d ff w hin _ _ _ _ _ hE rfl rfl rfl (.inl ⟨h1, rfl⟩))
end Go.Proofs.YtbfimfjhdbpenaaGreatDoor
/- Layer 8: slices.BinarySearchFunc over fixings, over choices. -/
namespace Go.Proofs.YtbfimfjhdbpenaaGreatDoor
open Go Go.RowKit Go.BigFrame
def SrcR (i : Nat) (b : Bool) (w : World) (e : Ending) (w' : World) : Prop := e = .returned (.tuple #[.int .i64 i, .bool b]) ∧ Below w.heap.size w w'
theorem cmK_lt0 {a b : Key} (h : ltK a b = true) : cmK a b < 0 := (cmK_neg a b).2 h
theorem cmK_ge0 {a b : Key} (h : ltK a b = false) : 0 ≤ cmK a b := by
  rcases Int.lt_or_le (cmK a b) 0 with g | g
  · rw [(cmK_neg a b).1 g] at h; cases h
  · exact g
set_option maxRecDepth 100000 in
set_option maxHeartbeats 3200000 in
theorem searchF_any (n v : ByteArray) (d : Int) (A : Option Addr) (c : Nat) (fs : List Fx) (w : World) (hA : RowsR w A 3 fxC fs) (hl : fs.length ≤ 1000) (hI : Inc Fx.key fs) :
    Calls Tryz.prog 97 #[.slice A fs.length c, .agg #[.string n, .int .i64 d, .string v], .func (.func 56) #[] #[]] w (SrcR (posL Fx.key (n, d, v) fs) (eqAt Fx.key (n, d, v) fs (posL Fx.key (n, d, v) fs)) w) := by
  have hpl := posL_le (key := Fx.key) (x := (n, d, v)) fs
  have hiff := posL_iff (key := Fx.key) (x := (n, d, v)) fs hI
  obtain ⟨eb, heb⟩ : ∃ eb, eqAt Fx.key (n, d, v) fs (posL Fx.key (n, d, v) fs) = eb := ⟨_, rfl⟩
  rw [heb]
  generalize posL Fx.key (n, d, v) fs = p at *
  have HB1 := belO w (.cells #[.string n, .int .i64 d, .string v] 44)
  obtain ⟨w1, hw1⟩ : ∃ w1, w.alloc (.cells #[.string n, .int .i64 d, .string v] 44) = w1 := ⟨_, rfl⟩
  have f0 : w1.cell? ⟨w.heap.size, 0, none⟩ = some (.string n) := by rw [← hw1, World.cell?_alloc_at _ _ _ _ rfl]; rfl
  have f1 : w1.cell? ⟨w.heap.size, 1, none⟩ = some (.int .i64 d) := by rw [← hw1, World.cell?_alloc_at _ _ _ _ rfl]; rfl
  have f2 : w1.cell? ⟨w.heap.size, 2, none⟩ = some (.string v) := by rw [← hw1, World.cell?_alloc_at _ _ _ _ rfl]; rfl
  rw [hw1] at HB1
  have HB := Lib.hid HB1
  have HA := Lib.hid (hA.below HB1)
  have HF := Lib.hid (And.intro f0 (And.intro f1 f2))
  have HIF := Lib.hid hiff
  have HEB := Lib.hid heb
  clear hA hI HB1 hiff heb
  go_enter Tryz.func97, Tryz.ntmps97
  go_wp2_with (fail)
  clear hw1 f0 f1 f2
  go_loopw [9, 10] (fun i j wr => ∃ (lo hi : Nat), lo ≤ p ∧ p ≤ hi ∧ hi ≤ fs.length ∧ i = .int .i64 lo ∧ j = .int .i64 hi ∧ Hid (Below w1.heap.size w1 wr)) (fun i j _ => (intOf j).toNat - (intOf i).toNat)
  case atStart => exact ⟨0, fs.length, by omega, hpl, by omega, rfl, rfl, Below.refl _ _⟩
  case round =>
    obtain ⟨lo, hi, h1, h2, h3, rfl, rfl, HW⟩ := hrel
    obtain ⟨f0, f1, f2⟩ := HF.out
    have t0 := (HW.out.cell (p := ⟨w.heap.size, 0, none⟩) (spot_none f0).2).trans f0
    have t1 := (HW.out.cell (p := ⟨w.heap.size, 1, none⟩) (spot_none f1).2).trans f1
    have t2 := (HW.out.cell (p := ⟨w.heap.size, 2, none⟩) (spot_none f2).2).trans f2
    clear f0 f1 f2
    by_cases hlt : lo < hi
    · obtain ⟨q, hq⟩ : ∃ q, (lo + hi) / 2 = q := ⟨_, rfl⟩
      have hm : q < fs.length := by omega
      have i1 : (lo : Int) < (hi : Int) := by omega
      have i2 : ((lo : Int) + (hi : Int)) / 2 = (q : Int) := by omega
      have i3 : (q : Int) < (fs.length : Int) := by omega
      obtain ⟨bb, o, eA, -, d0, d1, d2⟩ := RowsR.fx (HA.out.below HW.out) hm
      subst eA
      have HQ := Lib.hid (HIF.out _ hm)
      have hq1 : lo ≤ q := by omega
      have hq2 : q < hi := by omega
      generalize fs[q] = x at *
      obtain ⟨xn, xd, xv⟩ := x
      simp only at d0 d1 d2
      obtain ⟨cv, hcv⟩ : ∃ cv, cmK ([], xn.data.toList, xd) ([], n.data.toList, d) = cv := ⟨_, rfl⟩
      have HC : Hid (∀ W, Below wr.heap.size wr W → Calls Tryz.prog 56 #[.agg #[.string xn, .int .i64 xd, .string xv], .agg #[.string n, .int .i64 d, .string v]] W fun e w' => e = .returned (.int .i64 cv) ∧ Below W.heap.size W w') := fun W _ => by rw [← hcv]; exact compareFixings_any xn xv n v xd d W
      have zt0 := fun z : Bel wr => z.cell t0
      have zt1 := fun z : Bel wr => z.cell t1
      have zt2 := fun z : Bel wr => z.cell t2
      have zd0 := fun z : Bel wr => z.cell d0
      have zd1 := fun z : Bel wr => z.cell d1
      have zd2 := fun z : Bel wr => z.cell d2
      cases hk : ltK ([], xn.data.toList, xd) ([], n.data.toList, d)
      · have hp : p ≤ q := by
          rcases Nat.lt_or_ge q p with g | g
          · have h := HQ.out.2 g
            rw [show ltK (Fx.key (xn, xd, xv)) (Fx.key (n, d, v)) = false from hk] at h
            cases h
          · exact g
        have hc0 : ¬ cv < 0 := by have := cmK_ge0 hk; omega
        clear HQ hk hcv hq t0 t1 t2 d0 d1 d2
        go_wp2_with (fail)
        refine wp_region_bel (by kernel_rfl) (by kernel_rfl) ?_
        repeat (go_big_quiet_step (first
          | (go_at_call 56; with_reducible exact Bel.calls HC.out _)))
        refine wpQuiet_nil ?_
        rintro _ ⟨zz, rfl⟩
        have HZW := Lib.hid (btO HW.out zz.2)
        generalize zz.1 = w6 at *
        go_wp2_with (fail)
        go_roundw
        case rel => exact ⟨lo, q, h1, hp, by omega, rfl, rfl, HZW⟩
        case measure => simp [intOf]; omega
      · have hp : q < p := HQ.out.1 hk
        have hc0 : cv < 0 := by have := cmK_lt0 hk; omega
        clear HQ hk hcv hq t0 t1 t2 d0 d1 d2
        go_wp2_with (fail)
        refine wp_region_bel (by kernel_rfl) (by kernel_rfl) ?_
        repeat (go_big_quiet_step (first
          | (go_at_call 56; with_reducible exact Bel.calls HC.out _)))
        refine wpQuiet_nil ?_
        rintro _ ⟨zz, rfl⟩
        have HZW := Lib.hid (btO HW.out zz.2)
        generalize zz.1 = w6 at *
        go_wp2_with (fail)
        go_roundw
        case rel => exact ⟨q + 1, hi, by omega, h2, by omega, by go_num, rfl, HZW⟩
        case measure => simp [intOf]; omega
    · obtain rfl : lo = p := by omega
      obtain rfl : hi = lo := by omega
      by_cases hp : hi < fs.length
      · have i3 : (hi : Int) < (fs.length : Int) := by omega
        obtain ⟨bb, o, eA, -, d0, d1, d2⟩ := RowsR.fx (HA.out.below HW.out) hp
        subst eA
        have he : decide (Fx.key fs[hi] = Fx.key (n, d, v)) = eb := by
          rw [← HEB.out]; unfold eqAt; rw [List.getElem?_eq_getElem hp]
        clear HIF HEB
        generalize fs[hi] = x at *
        obtain ⟨xn, xd, xv⟩ := x
        simp only at d0 d1 d2
        obtain ⟨cv, hcv⟩ : ∃ cv, cmK ([], xn.data.toList, xd) ([], n.data.toList, d) = cv := ⟨_, rfl⟩
        have hz : cv = 0 ↔ Fx.key (xn, xd, xv) = Fx.key (n, d, v) := by rw [← hcv]; exact cmK_zero _ _
        have HC : Hid (∀ W, Below wr.heap.size wr W → Calls Tryz.prog 56 #[.agg #[.string xn, .int .i64 xd, .string xv], .agg #[.string n, .int .i64 d, .string v]] W fun e w' => e = .returned (.int .i64 cv) ∧ Below W.heap.size W w') := fun W _ => by rw [← hcv]; exact compareFixings_any xn xv n v xd d W
        have zt0 := fun z : Bel wr => z.cell t0
        have zt1 := fun z : Bel wr => z.cell t1
        have zt2 := fun z : Bel wr => z.cell t2
        have zd0 := fun z : Bel wr => z.cell d0
        have zd1 := fun z : Bel wr => z.cell d1
        have zd2 := fun z : Bel wr => z.cell d2
        have hcz : (cv == 0) = eb := by
          rw [← he]
          by_cases g : cv = 0
          · rw [decide_eq_true (hz.1 g), g]; rfl
          · rw [decide_eq_false (fun k => g (hz.2 k)), beq_eq_false_iff_ne]; exact g
        clear hz he hcv t0 t1 t2 d0 d1 d2
        go_wp2_with (fail)
        refine wp_region_bel (by kernel_rfl) (by kernel_rfl) ?_
        repeat (go_big_quiet_step (first
          | (go_at_call 56; with_reducible exact Bel.calls HC.out _)))
        refine wpQuiet_nil ?_
        rintro _ ⟨zz, rfl⟩
        have HZW := Lib.hid (btO HW.out zz.2)
        generalize zz.1 = w6 at *
        go_wp2_with (fail)
        go_ret2
        exact ⟨rfl, btO HB.out HZW.out⟩
      · obtain rfl : hi = fs.length := by omega
        have he : eb = false := by
          rw [← HEB.out]; unfold eqAt; rw [List.getElem?_eq_none (Nat.le_refl _)]
        subst he
        clear HIF HEB
        have zt0 := fun z : Bel wr => z.cell t0
        go_wp2_with (fail)
        refine wp_region_bel (by kernel_rfl) (by kernel_rfl) ?_
        repeat (go_big_quiet_step (fail))
        refine wpQuiet_nil ?_
        rintro _ ⟨zz, rfl⟩
        have HZW := Lib.hid (btO HW.out zz.2)
        generalize zz.1 = w6 at *
        go_wp2_with (fail)
        go_ret2
        exact ⟨rfl, btO HB.out HZW.out⟩
set_option maxRecDepth 100000 in
set_option maxHeartbeats 3200000 in
theorem searchC_any (pp n : ByteArray) (d : Int) (ff : Bool) (A : Option Addr) (c : Nat) (cs : List Cx) (w : World) (hA : RowsR w A 4 cxC cs) (hl : cs.length ≤ 1000) (hI : Inc Cx.key cs) :
    Calls Tryz.prog 102 #[.slice A cs.length c, .agg #[.string pp, .string n, .int .i64 d, .bool ff], .func (.func 59) #[] #[]] w (SrcR (posL Cx.key (pp, n, d, ff) cs) (eqAt Cx.key (pp, n, d, ff) cs (posL Cx.key (pp, n, d, ff) cs)) w) := by
  have hpl := posL_le (key := Cx.key) (x := (pp, n, d, ff)) cs
  have hiff := posL_iff (key := Cx.key) (x := (pp, n, d, ff)) cs hI
  obtain ⟨eb, heb⟩ : ∃ eb, eqAt Cx.key (pp, n, d, ff) cs (posL Cx.key (pp, n, d, ff) cs) = eb := ⟨_, rfl⟩
  rw [heb]
  generalize posL Cx.key (pp, n, d, ff) cs = p at *
  have HB1 := belO w (.cells #[.string pp, .string n, .int .i64 d, .bool ff] 47)
  obtain ⟨w1, hw1⟩ : ∃ w1, w.alloc (.cells #[.string pp, .string n, .int .i64 d, .bool ff] 47) = w1 := ⟨_, rfl⟩
  have f0 : w1.cell? ⟨w.heap.size, 0, none⟩ = some (.string pp) := by rw [← hw1, World.cell?_alloc_at _ _ _ _ rfl]; rfl
  have f1 : w1.cell? ⟨w.heap.size, 1, none⟩ = some (.string n) := by rw [← hw1, World.cell?_alloc_at _ _ _ _ rfl]; rfl
  have f2 : w1.cell? ⟨w.heap.size, 2, none⟩ = some (.int .i64 d) := by rw [← hw1, World.cell?_alloc_at _ _ _ _ rfl]; rfl
  have f3 : w1.cell? ⟨w.heap.size, 3, none⟩ = some (.bool ff) := by rw [← hw1, World.cell?_alloc_at _ _ _ _ rfl]; rfl
  rw [hw1] at HB1
  have HB := Lib.hid HB1
  have HA := Lib.hid (hA.below HB1)
  have HF := Lib.hid (And.intro f0 (And.intro f1 (And.intro f2 f3)))
  have HIF := Lib.hid hiff
  have HEB := Lib.hid heb
  clear hA hI HB1 hiff heb
  go_enter Tryz.func102, Tryz.ntmps102
  go_wp2_with (fail)
  clear hw1 f0 f1 f2 f3
  go_loopw [9, 10] (fun i j wr => ∃ (lo hi : Nat), lo ≤ p ∧ p ≤ hi ∧ hi ≤ cs.length ∧ i = .int .i64 lo ∧ j = .int .i64 hi ∧ Hid (Below w1.heap.size w1 wr)) (fun i j _ => (intOf j).toNat - (intOf i).toNat)
  case atStart => exact ⟨0, cs.length, by omega, hpl, by omega, rfl, rfl, Below.refl _ _⟩
  case round =>
    obtain ⟨lo, hi, h1, h2, h3, rfl, rfl, HW⟩ := hrel
    obtain ⟨f0, f1, f2, f3⟩ := HF.out
    have t0 := (HW.out.cell (p := ⟨w.heap.size, 0, none⟩) (spot_none f0).2).trans f0
    have t1 := (HW.out.cell (p := ⟨w.heap.size, 1, none⟩) (spot_none f1).2).trans f1
    have t2 := (HW.out.cell (p := ⟨w.heap.size, 2, none⟩) (spot_none f2).2).trans f2
    have t3 := (HW.out.cell (p := ⟨w.heap.size, 3, none⟩) (spot_none f3).2).trans f3
    clear f0 f1 f2 f3
    by_cases hlt : lo < hi
    · obtain ⟨q, hq⟩ : ∃ q, (lo + hi) / 2 = q := ⟨_, rfl⟩
      have hm : q < cs.length := by omega
      have i1 : (lo : Int) < (hi : Int) := by omega
      have i2 : ((lo : Int) + (hi : Int)) / 2 = (q : Int) := by omega
      have i3 : (q : Int) < (cs.length : Int) := by omega
      obtain ⟨bb, o, eA, -, d0, d1, d2, d3⟩ := RowsR.cx (HA.out.below HW.out) hm
      subst eA
      have HQ := Lib.hid (HIF.out _ hm)
      have hq1 : lo ≤ q := by omega
      have hq2 : q < hi := by omega
      generalize cs[q] = x at *
      obtain ⟨xp, xn, xd, xf⟩ := x
      simp only at d0 d1 d2 d3
      obtain ⟨cv, hcv⟩ : ∃ cv, cmK (xp.data.toList, xn.data.toList, xd) (pp.data.toList, n.data.toList, d) = cv := ⟨_, rfl⟩
      have HC : Hid (∀ W, Below wr.heap.size wr W → Calls Tryz.prog 59 #[.agg #[.string xp, .string xn, .int .i64 xd, .bool xf], .agg #[.string pp, .string n, .int .i64 d, .bool ff]] W fun e w' => e = .returned (.int .i64 cv) ∧ Below W.heap.size W w') := fun W _ => by rw [← hcv]; exact compareChoices_any xp xn pp n xd d xf ff W
      have zt0 := fun z : Bel wr => z.cell t0
      have zt1 := fun z : Bel wr => z.cell t1
      have zt2 := fun z : Bel wr => z.cell t2
      have zt3 := fun z : Bel wr => z.cell t3
      have zd0 := fun z : Bel wr => z.cell d0
      have zd1 := fun z : Bel wr => z.cell d1
      have zd2 := fun z : Bel wr => z.cell d2
      have zd3 := fun z : Bel wr => z.cell d3
      cases hk : ltK (xp.data.toList, xn.data.toList, xd) (pp.data.toList, n.data.toList, d)
      · have hp : p ≤ q := by
          rcases Nat.lt_or_ge q p with g | g
          · have h := HQ.out.2 g
            rw [show ltK (Cx.key (xp, xn, xd, xf)) (Cx.key (pp, n, d, ff)) = false from hk] at h
            cases h
          · exact g
        have hc0 : ¬ cv < 0 := by have := cmK_ge0 hk; omega
        clear HQ hk hcv hq t0 t1 t2 t3 d0 d1 d2 d3
        go_wp2_with (fail)
        refine wp_region_bel (by kernel_rfl) (by kernel_rfl) ?_
        repeat (go_big_quiet_step (first
          | (go_at_call 59; with_reducible exact Bel.calls HC.out _)))
        refine wpQuiet_nil ?_
        rintro _ ⟨zz, rfl⟩
        have HZW := Lib.hid (btO HW.out zz.2)
        generalize zz.1 = w6 at *
        go_wp2_with (fail)
        go_roundw
        case rel => exact ⟨lo, q, h1, hp, by omega, rfl, rfl, HZW⟩
        case measure => simp [intOf]; omega
      · have hp : q < p := HQ.out.1 hk
        have hc0 : cv < 0 := by have := cmK_lt0 hk; omega
        clear HQ hk hcv hq t0 t1 t2 t3 d0 d1 d2 d3
        go_wp2_with (fail)
        refine wp_region_bel (by kernel_rfl) (by kernel_rfl) ?_
        repeat (go_big_quiet_step (first
          | (go_at_call 59; with_reducible exact Bel.calls HC.out _)))
        refine wpQuiet_nil ?_
        rintro _ ⟨zz, rfl⟩
        have HZW := Lib.hid (btO HW.out zz.2)
        generalize zz.1 = w6 at *
        go_wp2_with (fail)
        go_roundw
        case rel => exact ⟨q + 1, hi, by omega, h2, by omega, by go_num, rfl, HZW⟩
        case measure => simp [intOf]; omega
    · obtain rfl : lo = p := by omega
      obtain rfl : hi = lo := by omega
      by_cases hp : hi < cs.length
      · have i3 : (hi : Int) < (cs.length : Int) := by omega
        obtain ⟨bb, o, eA, -, d0, d1, d2, d3⟩ := RowsR.cx (HA.out.below HW.out) hp
        subst eA
        have he : decide (Cx.key cs[hi] = Cx.key (pp, n, d, ff)) = eb := by
          rw [← HEB.out]; unfold eqAt; rw [List.getElem?_eq_getElem hp]
        clear HIF HEB
        generalize cs[hi] = x at *
        obtain ⟨xp, xn, xd, xf⟩ := x
        simp only at d0 d1 d2 d3
        obtain ⟨cv, hcv⟩ : ∃ cv, cmK (xp.data.toList, xn.data.toList, xd) (pp.data.toList, n.data.toList, d) = cv := ⟨_, rfl⟩
        have hz : cv = 0 ↔ Cx.key (xp, xn, xd, xf) = Cx.key (pp, n, d, ff) := by rw [← hcv]; exact cmK_zero _ _
        have HC : Hid (∀ W, Below wr.heap.size wr W → Calls Tryz.prog 59 #[.agg #[.string xp, .string xn, .int .i64 xd, .bool xf], .agg #[.string pp, .string n, .int .i64 d, .bool ff]] W fun e w' => e = .returned (.int .i64 cv) ∧ Below W.heap.size W w') := fun W _ => by rw [← hcv]; exact compareChoices_any xp xn pp n xd d xf ff W
        have zt0 := fun z : Bel wr => z.cell t0
        have zt1 := fun z : Bel wr => z.cell t1
        have zt2 := fun z : Bel wr => z.cell t2
        have zt3 := fun z : Bel wr => z.cell t3
        have zd0 := fun z : Bel wr => z.cell d0
        have zd1 := fun z : Bel wr => z.cell d1
        have zd2 := fun z : Bel wr => z.cell d2
        have zd3 := fun z : Bel wr => z.cell d3
        have hcz : (cv == 0) = eb := by
          rw [← he]
          by_cases g : cv = 0
          · rw [decide_eq_true (hz.1 g), g]; rfl
          · rw [decide_eq_false (fun k => g (hz.2 k)), beq_eq_false_iff_ne]; exact g
        clear hz he hcv t0 t1 t2 t3 d0 d1 d2 d3
        go_wp2_with (fail)
        refine wp_region_bel (by kernel_rfl) (by kernel_rfl) ?_
        repeat (go_big_quiet_step (first
          | (go_at_call 59; with_reducible exact Bel.calls HC.out _)))
        refine wpQuiet_nil ?_
        rintro _ ⟨zz, rfl⟩
        have HZW := Lib.hid (btO HW.out zz.2)
        generalize zz.1 = w6 at *
        go_wp2_with (fail)
        go_ret2
        exact ⟨rfl, btO HB.out HZW.out⟩
      · obtain rfl : hi = cs.length := by omega
        have he : eb = false := by
          rw [← HEB.out]; unfold eqAt; rw [List.getElem?_eq_none (Nat.le_refl _)]
        subst he
        clear HIF HEB
        have zt0 := fun z : Bel wr => z.cell t0
        go_wp2_with (fail)
        refine wp_region_bel (by kernel_rfl) (by kernel_rfl) ?_
        repeat (go_big_quiet_step (fail))
        refine wpQuiet_nil ?_
        rintro _ ⟨zz, rfl⟩
        have HZW := Lib.hid (btO HW.out zz.2)
        generalize zz.1 = w6 at *
        go_wp2_with (fail)
        go_ret2
        exact ⟨rfl, btO HB.out HZW.out⟩
end Go.Proofs.YtbfimfjhdbpenaaGreatDoor
/- Layer 8: an environment, a fixing, a choice among a law's arguments, opened. -/
namespace Go.Proofs.YtbfimfjhdbpenaaGreatDoor
open Go Go.RowKit
section
variable {H : Type} {enc : TypeId × Value → H} {W : World}
set_option maxRecDepth 100000 in
theorem open_fx (fuel : Nat) (cs : List Value) (x : DataW H × List MemPlace) (hf : DataW.trod enc Tryz.prog W 0 (fun _ => true) true fuel 44 cs = some x) (hwt : ∀ n ∈ DataW.weights Tryz.prog 44 x.1, n ≤ reachBytes) : ∃ f : Fx, cs = fxC f ∧ f.1.size ≤ 140737488351232 ∧ f.2.2.size ≤ 140737488351232 ∧ -9223372036854775808 ≤ f.2.1 ∧ f.2.1 ≤ 9223372036854775807 := by
  obtain ⟨xs, n, hn, hx, hcl, hlen, hg⟩ := DataW.trod_struct Tryz.underlying44 hf
  have k1 : Tryz.prog.cellsOf 3 = 1 := by kernel_rfl
  have k3 : Tryz.prog.cellsOf 23 = 1 := by kernel_rfl
  have k4 : Tryz.prog.cellsOf 9 = 1 := by kernel_rfl
  have k5 : Tryz.prog.cellsOf 4 = 1 := by kernel_rfl
  have k6 : Tryz.prog.cellsOf 44 = 3 := by kernel_rfl
  rw [k6] at hcl
  obtain ⟨c0, c1, c2, rfl⟩ : ∃ c0 c1 c2, cs = [c0, c1, c2] := by
    match cs, hcl with
    | [c0, c1, c2], _ => exact ⟨c0, c1, c2, rfl⟩
  obtain ⟨y0, y1, y2, rfl⟩ : ∃ y0 y1 y2, xs = [y0, y1, y2] := by
    match xs, hlen with
    | [y0, y1, y2], _ => exact ⟨y0, y1, y2, rfl⟩
  have g0 : DataW.trod enc Tryz.prog W 0 (fun _ => true) true n 9 [c0] = some y0 := by simpa [k1, k3, k4, k5] using hg 0 _ rfl
  have g1 : DataW.trod enc Tryz.prog W 0 (fun _ => true) true n 3 [c1] = some y1 := by simpa [k1, k3, k4, k5] using hg 1 _ rfl
  have g2 : DataW.trod enc Tryz.prog W 0 (fun _ => true) true n 23 [c2] = some y2 := by simpa [k1, k3, k4, k5] using hg 2 _ rfl
  clear hg hf
  have hwe : ∀ (j : Nat) (t : TypeId) (d : DataW H), ([9, 3, 23] : List TypeId)[j]? = some t → ([y0.1, y1.1, y2.1] : List (DataW H))[j]? = some d → ∀ n ∈ d.weights Tryz.prog t, n ≤ reachBytes := by
    intro j t d ht hd n hn
    refine hwt n ?_
    rw [hx]
    show n ∈ DataW.weights Tryz.prog 44 (.agg [y0.1, y1.1, y2.1])
    rw [DataW.weights, Tryz.underlying44]
    exact DataW.weights_mem_each ht hd n hn
  clear hwt
  obtain ⟨s0, h0, x0, w0⟩ := DataW.trod_string Tryz.underlying9 g0
  obtain rfl : c0 = .string s0 := by simpa using h0
  have w0 : s0.size ≤ 140737488351232 := by
    have := hwe 0 _ _ rfl rfl s0.data.toList.length (by rw [x0]; exact w_strO s0)
    exact Nat.le_trans (Nat.le_of_eq (size_lenO s0)) (Nat.le_trans this (by decide))
  obtain ⟨s1, h1, -, w1⟩ := DataW.trod_int Tryz.underlying3 g1
  obtain rfl : c1 = .int .i64 s1 := by simpa using h1
  have b1 := bounds_i64 w1
  obtain ⟨s2, h2, x2, w2⟩ := DataW.trod_string Tryz.underlying23 g2
  obtain rfl : c2 = .string s2 := by simpa using h2
  have w2 : s2.size ≤ 140737488351232 := by
    have := hwe 2 _ _ rfl rfl s2.data.toList.length (by rw [x2]; exact w_strO s2)
    exact Nat.le_trans (Nat.le_of_eq (size_lenO s2)) (Nat.le_trans this (by decide))
  exact ⟨(s0, s1, s2), rfl, w0, w2, b1.1, b1.2⟩
set_option maxRecDepth 100000 in
theorem open_cx (fuel : Nat) (cs : List Value) (x : DataW H × List MemPlace) (hf : DataW.trod enc Tryz.prog W 0 (fun _ => true) true fuel 47 cs = some x) (hwt : ∀ n ∈ DataW.weights Tryz.prog 47 x.1, n ≤ reachBytes) : ∃ f : Cx, cs = cxC f ∧ f.1.size ≤ 140737488351232 ∧ f.2.1.size ≤ 140737488351232 := by
  obtain ⟨xs, n, hn, hx, hcl, hlen, hg⟩ := DataW.trod_struct Tryz.underlying47 hf
  have k1 : Tryz.prog.cellsOf 3 = 1 := by kernel_rfl
  have k3 : Tryz.prog.cellsOf 23 = 1 := by kernel_rfl
  have k4 : Tryz.prog.cellsOf 9 = 1 := by kernel_rfl
  have k5 : Tryz.prog.cellsOf 4 = 1 := by kernel_rfl
  have k6 : Tryz.prog.cellsOf 47 = 4 := by kernel_rfl
  rw [k6] at hcl
  obtain ⟨c0, c1, c2, c3, rfl⟩ : ∃ c0 c1 c2 c3, cs = [c0, c1, c2, c3] := by
    match cs, hcl with
    | [c0, c1, c2, c3], _ => exact ⟨c0, c1, c2, c3, rfl⟩
  obtain ⟨y0, y1, y2, y3, rfl⟩ : ∃ y0 y1 y2 y3, xs = [y0, y1, y2, y3] := by
    match xs, hlen with
    | [y0, y1, y2, y3], _ => exact ⟨y0, y1, y2, y3, rfl⟩
  have g0 : DataW.trod enc Tryz.prog W 0 (fun _ => true) true n 9 [c0] = some y0 := by simpa [k1, k3, k4, k5] using hg 0 _ rfl
  have g1 : DataW.trod enc Tryz.prog W 0 (fun _ => true) true n 9 [c1] = some y1 := by simpa [k1, k3, k4, k5] using hg 1 _ rfl
  have g2 : DataW.trod enc Tryz.prog W 0 (fun _ => true) true n 3 [c2] = some y2 := by simpa [k1, k3, k4, k5] using hg 2 _ rfl
  have g3 : DataW.trod enc Tryz.prog W 0 (fun _ => true) true n 4 [c3] = some y3 := by simpa [k1, k3, k4, k5] using hg 3 _ rfl
  clear hg hf
  have hwe : ∀ (j : Nat) (t : TypeId) (d : DataW H), ([9, 9, 3, 4] : List TypeId)[j]? = some t → ([y0.1, y1.1, y2.1, y3.1] : List (DataW H))[j]? = some d → ∀ n ∈ d.weights Tryz.prog t, n ≤ reachBytes := by
    intro j t d ht hd n hn
    refine hwt n ?_
    rw [hx]
    show n ∈ DataW.weights Tryz.prog 47 (.agg [y0.1, y1.1, y2.1, y3.1])
    rw [DataW.weights, Tryz.underlying47]
    exact DataW.weights_mem_each ht hd n hn
  clear hwt
  obtain ⟨s0, h0, x0, w0⟩ := DataW.trod_string Tryz.underlying9 g0
  obtain rfl : c0 = .string s0 := by simpa using h0
  have w0 : s0.size ≤ 140737488351232 := by
    have := hwe 0 _ _ rfl rfl s0.data.toList.length (by rw [x0]; exact w_strO s0)
    exact Nat.le_trans (Nat.le_of_eq (size_lenO s0)) (Nat.le_trans this (by decide))
  obtain ⟨s1, h1, x1, w1⟩ := DataW.trod_string Tryz.underlying9 g1
  obtain rfl : c1 = .string s1 := by simpa using h1
  have w1 : s1.size ≤ 140737488351232 := by
    have := hwe 1 _ _ rfl rfl s1.data.toList.length (by rw [x1]; exact w_strO s1)
    exact Nat.le_trans (Nat.le_of_eq (size_lenO s1)) (Nat.le_trans this (by decide))
  obtain ⟨s2, h2, -, w2⟩ := DataW.trod_int Tryz.underlying3 g2
  obtain rfl : c2 = .int .i64 s2 := by simpa using h2
  have b2 := bounds_i64 w2
  obtain ⟨s3, h3, -⟩ := DataW.trod_bool Tryz.underlying4 g3
  obtain rfl : c3 = .bool s3 := by simpa using h3
  exact ⟨(s0, s1, s2, s3), rfl, w0, w1⟩
set_option maxRecDepth 100000 in
theorem open_rows {α : Type} [Inhabited α] {encA : α → List Value} {k : Nat} (hk : ∀ x, (encA x).length = k) (h0 : 0 < k) {S e : TypeId} (hS : Tryz.prog.underlying S = some (.slice e)) (hc : Tryz.prog.cellsOf e = k) (hby : 1 ≤ Tryz.prog.bytesOf e) (ok : α → Prop)
    (hel : ∀ fuel cs (x : DataW H × List MemPlace), DataW.trod enc Tryz.prog W 0 (fun _ => true) true fuel e cs = some x → (∀ n ∈ DataW.weights Tryz.prog e x.1, n ≤ reachBytes) → ∃ f : α, cs = encA f ∧ ok f)
    (fuel : Nat) (c : Value) (x : DataW H × List MemPlace) (hf : DataW.trod enc Tryz.prog W 0 (fun _ => true) true fuel S [c] = some x) (hwt : ∀ n ∈ DataW.weights Tryz.prog S x.1, n ≤ reachBytes) :
    ∃ A l cap, c = .slice A l.length cap ∧ RowsR W A k encA l ∧ l.length ≤ cap ∧ cap ≤ 140737488351232 ∧ (A = none → cap = 0) ∧ ∀ f ∈ l, ok f := by
  rcases DataW.trod_slice hS hf with ⟨h4, -⟩ | ⟨a, len, cap, elems, rest, n2, hn2, h4, x4, -, hlc, -, hel2, hget, hsp, -⟩
  · obtain rfl : c = .slice none 0 0 := by simpa using h4
    exact ⟨none, [], 0, rfl, RowsR.nil, Nat.le_refl _, Nat.zero_le _, fun _ => rfl, by simp⟩
  · obtain rfl : c = .slice (some a) len cap := by simpa using h4
    rw [hc] at hget
    rw [x4, DataW.weights, hS] at hwt
    have hcm : cap ≤ 140737488351232 := by
      have h1 := hwt _ (List.mem_cons_self ..)
      rw [List.length_map, List.length_map, hel2, (hsp rfl).1] at h1
      have h2 : reachBytes = 140737488351232 := rfl
      have h3 : (len + (cap - len)) * 1 ≤ (len + (cap - len)) * Tryz.prog.bytesOf e := Nat.mul_le_mul_left _ hby
      omega
    have hE : ∀ i, i < len → ∃ T : α, (∃ cs, W.cells? 0 (a.add (i * k)) k = some cs ∧ cs = encA T) ∧ ok T := by
      intro i hi
      have := hget i hi
      rw [List.getElem?_eq_getElem (by omega)] at this
      obtain ⟨cs', q1, q2⟩ := Option.bind_eq_some_iff.1 this
      obtain ⟨T, e, hT⟩ := hel n2 cs' _ q2 (fun n hn => hwt n (by
        refine List.mem_cons_of_mem _ (List.mem_append_left _ (weightsAll_mem hn _ ?_))
        exact List.mem_map_of_mem (List.getElem_mem _)))
      exact ⟨T, ⟨cs', q1, e⟩, hT⟩
    obtain ⟨F, hF⟩ := Deep.choose_lt hE
    have hl : ((List.range len).map F).length = len := by simp
    refine ⟨some a, (List.range len).map F, cap, by rw [hl], fun j hj => ?_, by rw [hl]; exact hlc, hcm, fun h => (by cases h), fun f hf => ?_⟩
    · rw [hl] at hj
      have hj' : ((List.range len).map F)[j]'(by rw [hl]; exact hj) = F j := by simp
      rw [hj']
      obtain ⟨⟨cs', q1, rfl⟩, -⟩ := hF j hj
      have hcc : ∀ i v, (encA (F j))[i]? = some v → W.cell? ((a.add (j * k)).add i) = some v := fun i v hv => by
        obtain ⟨-, hl2, hc2⟩ := World.cells?_some q1
        have hi : i < k := by
          rw [← hl2]
          exact (List.getElem?_eq_some_iff.1 hv).1
        rw [hc2 i hi]; exact hv
      have hsp : a.spot = none := by
        obtain ⟨⟨cs0, z1, rfl⟩, -⟩ := hF 0 (by omega)
        obtain ⟨-, -, z2⟩ := World.cells?_some z1
        have z3 := z2 0 h0
        rw [Nat.zero_mul] at z3
        have z4 : ∃ v, (encA (F 0))[0]? = some v := ⟨_, List.getElem?_eq_getElem (by rw [hk]; exact h0)⟩
        obtain ⟨v, z4⟩ := z4
        rw [z4] at z3
        exact (spot_none z3).1
      obtain ⟨b, o, p⟩ := a
      simp only at hsp
      subst hsp
      have hb : b < W.heap.size := by
        obtain ⟨v, z4⟩ : ∃ v, (encA (F j))[0]? = some v := ⟨_, List.getElem?_eq_getElem (by rw [hk]; exact h0)⟩
        have := (spot_none (hcc 0 v z4)).2
        rw [add_off, add_off] at this
        exact this
      refine ⟨b, o, rfl, hb, fun i v hv => ?_⟩
      have := hcc i v hv
      rw [add_off, add_off] at this
      rw [← this, Nat.add_assoc]
    · rw [List.mem_map] at hf
      obtain ⟨i, hi, rfl⟩ := hf
      exact (hF i (List.mem_range.1 hi)).2
set_option maxRecDepth 100000 in
theorem open_env (fuel : Nat) (cs : List Value) (x : DataW H × List MemPlace) (hf : DataW.trod enc Tryz.prog W 0 (fun _ => true) true fuel 38 cs = some x) (hwt : ∀ n ∈ DataW.weights Tryz.prog 38 x.1, n ≤ reachBytes) :
    ∃ E : Ev, cs = [.slice E.fA E.fs.length E.fc, .slice E.cA E.cs.length E.cc] ∧ E.In W ∧ CapR E.fA E.fs.length E.fc ∧ CapR E.cA E.cs.length E.cc := by
  obtain ⟨xs, n, hn, hx, hcl, hlen, hg⟩ := DataW.trod_struct Tryz.underlying38 hf
  have k1 : Tryz.prog.cellsOf 35 = 1 := by kernel_rfl
  have k2 : Tryz.prog.cellsOf 36 = 1 := by kernel_rfl
  have k6 : Tryz.prog.cellsOf 38 = 2 := by kernel_rfl
  rw [k6] at hcl
  obtain ⟨c0, c1, rfl⟩ : ∃ c0 c1, cs = [c0, c1] := by
    match cs, hcl with
    | [c0, c1], _ => exact ⟨c0, c1, rfl⟩
  obtain ⟨y0, y1, rfl⟩ : ∃ y0 y1, xs = [y0, y1] := by
    match xs, hlen with
    | [y0, y1], _ => exact ⟨y0, y1, rfl⟩
  have g0 : DataW.trod enc Tryz.prog W 0 (fun _ => true) true n 35 [c0] = some y0 := by simpa [k1, k2] using hg 0 _ rfl
  have g1 : DataW.trod enc Tryz.prog W 0 (fun _ => true) true n 36 [c1] = some y1 := by simpa [k1, k2] using hg 1 _ rfl
  have hwe : ∀ (j : Nat) (t : TypeId) (d : DataW H), ([35, 36] : List TypeId)[j]? = some t → ([y0.1, y1.1] : List (DataW H))[j]? = some d → ∀ n ∈ d.weights Tryz.prog t, n ≤ reachBytes := by
    intro j t d ht hd n hn
    refine hwt n ?_
    rw [hx]
    show n ∈ DataW.weights Tryz.prog 38 (.agg [y0.1, y1.1])
    rw [DataW.weights, Tryz.underlying38]
    exact DataW.weights_mem_each ht hd n hn
  haveI : Inhabited Fx := ⟨(⟨#[]⟩, 0, ⟨#[]⟩)⟩
  haveI : Inhabited Cx := ⟨(⟨#[]⟩, ⟨#[]⟩, 0, false)⟩
  obtain ⟨A, l, cap, rfl, r1, r2, r3, r4, r5⟩ := open_rows fxC_len (by decide) Tryz.underlying35 (by kernel_rfl) (by decide +kernel) _ (fun fu cs x h hw => open_fx fu cs x h hw) n c0 y0 g0 (hwe 0 _ _ rfl rfl)
  obtain ⟨A2, l2, cap2, rfl, q1, q2, q3, q4, q5⟩ := open_rows cxC_len (by decide) Tryz.underlying36 (by kernel_rfl) (by decide +kernel) _ (fun fu cs x h hw => open_cx fu cs x h hw) n c1 y1 g1 (hwe 1 _ _ rfl rfl)
  exact ⟨⟨A, l, cap, A2, l2, cap2⟩, rfl, ⟨r1, q1, Nat.le_trans r2 r3, Nat.le_trans q2 q3, fun f hf => ⟨(r5 f hf).1, (r5 f hf).2.1⟩, fun c hc => q5 c hc⟩, ⟨r2, by unfold maxLen; show cap ≤ _; omega, r4⟩, ⟨q2, by unfold maxLen; show cap2 ≤ _; omega, q4⟩⟩
end
end Go.Proofs.YtbfimfjhdbpenaaGreatDoor
/- Layer 8: the arguments of the laws, opened; the variables that the rows lay. -/
namespace Go.Proofs.YtbfimfjhdbpenaaGreatDoor
open Go Go.ChangeShapes Go.WideShapes Go.ChangeAt Go.RowKit
theorem hwt_of {H : Type} {P : Program} {ts : List TypeId} {ds : List (DataW H)} (hsz : (DataW.weightsEach P ts ds).all (· ≤ reachBytes) = true) {j : Nat} {t : TypeId} {d : DataW H} (hj : ts[j]? = some t) (hd : ds[j]? = some d) : ∀ n ∈ DataW.weights P t d, n ≤ reachBytes := fun n hn =>
  of_decide_eq_true (List.all_eq_true.1 hsz _ (DataW.weights_mem_each hj hd n hn))
section
variable {H : Type} {enc : TypeId × Value → H} {W : World} {v : Value} {d : DataW H} {p : List MemPlace} {r : Reach} {b0 : Nat} {ts : List TypeId} {ds : List (DataW H)} (hsz : (DataW.weightsEach Tryz.prog ts ds).all (· ≤ reachBytes) = true) {j : Nat} (hd : ds[j]? = some d)
include hsz hd
set_option maxRecDepth 100000 in
theorem open_envA (hv : Value.okWide Tryz.prog W r b0 38 v) (h : DataW.Trod enc Tryz.prog W 0 (fun _ => true) true 38 v d p) (hj : ts[j]? = some 38) : ∃ E : Ev, v = E.val ∧ E.In W ∧ CapR E.fA E.fs.length E.fc ∧ CapR E.cA E.cs.length E.cc := by
  obtain ⟨cs, rfl, -⟩ := okWide_struct Tryz.underlying38 hv
  obtain ⟨fuel, hf⟩ := h
  obtain ⟨E, e, hE⟩ := open_env fuel _ _ hf (hwt_of hsz hj hd)
  refine ⟨E, ?_, hE⟩
  have e : cs.toList = [.slice E.fA E.fs.length E.fc, .slice E.cA E.cs.length E.cc] := e
  rw [show cs = [.slice E.fA E.fs.length E.fc, .slice E.cA E.cs.length E.cc].toArray by rw [← e]]
set_option maxRecDepth 100000 in
theorem open_fxA (hv : Value.okWide Tryz.prog W r b0 44 v) (h : DataW.Trod enc Tryz.prog W 0 (fun _ => true) true 44 v d p) (hj : ts[j]? = some 44) : ∃ (n : ByteArray) (z : Int) (u : ByteArray), v = .agg #[.string n, .int .i64 z, .string u] ∧ n.size ≤ 140737488351232 ∧ u.size ≤ 140737488351232 ∧ -9223372036854775808 ≤ z ∧ z ≤ 9223372036854775807 := by
  obtain ⟨cs, rfl, -⟩ := okWide_struct Tryz.underlying44 hv
  obtain ⟨fuel, hf⟩ := h
  obtain ⟨f, e, h1, h2, h3⟩ := open_fx fuel _ _ hf (hwt_of hsz hj hd)
  refine ⟨f.1, f.2.1, f.2.2, ?_, h1, h2, h3⟩
  have e : cs.toList = [.string f.1, .int .i64 f.2.1, .string f.2.2] := e
  rw [show cs = [.string f.1, .int .i64 f.2.1, .string f.2.2].toArray by rw [← e]]
set_option maxRecDepth 100000 in
theorem open_cxA (hv : Value.okWide Tryz.prog W r b0 47 v) (h : DataW.Trod enc Tryz.prog W 0 (fun _ => true) true 47 v d p) (hj : ts[j]? = some 47) : ∃ (m n : ByteArray) (z : Int) (b : Bool), v = .agg #[.string m, .string n, .int .i64 z, .bool b] ∧ m.size ≤ 140737488351232 ∧ n.size ≤ 140737488351232 := by
  obtain ⟨cs, rfl, -⟩ := okWide_struct Tryz.underlying47 hv
  obtain ⟨fuel, hf⟩ := h
  obtain ⟨f, e, h1, h2⟩ := open_cx fuel _ _ hf (hwt_of hsz hj hd)
  refine ⟨f.1, f.2.1, f.2.2.1, f.2.2.2, ?_, h1, h2⟩
  have e : cs.toList = [.string f.1, .string f.2.1, .int .i64 f.2.2.1, .bool f.2.2.2] := e
  rw [show cs = [.string f.1, .string f.2.1, .int .i64 f.2.2.1, .bool f.2.2.2].toArray by rw [← e]]
end
theorem obvar_Envs {W : World} (h : laidMetH Tryz.prog Rows.observableEnvsRow.laid W) (hs : W.ShapedOpen Tryz.prog) : VarR W := by -- 4
  rw [MakeChecks.laidMetH_plain _ _ _ (by kernel_rfl)] at h
  have h1 : laidMet Tryz.prog _ W := h.tail
  have t1 : Lib.TabIs Tryz.prog W "math/bits.deBruijn64tab" .u8 db64 := Lib.tabIs_of_head gDb64 (t := 249) (by kernel_rfl) Tryz.underlying249 Tryz.underlying5 (by kernel_rfl) (by kernel_rfl) h1
  have c1 := t1.cell gDb64 0 (by decide)
  have h2 := h1.tail
  have t2 : Lib.TabIs Tryz.prog W "internal/strconv.uint64pow10" .u64 Lib.pow10Tab := Lib.tabIs_of_head gTab (t := 244) (by kernel_rfl) Tryz.underlying244 Tryz.underlying212 (by kernel_rfl) (by kernel_rfl) h2
  exact varr_of ⟨by have := lt_of_cell c1; omega, t2⟩ hs
end Go.Proofs.YtbfimfjhdbpenaaGreatDoor

/- Joined: OeM, OeC, OeC1, OeC2, OeC3, OeC4, OeD, OeE. -/
import Derived.Test.YtbfimfjhdbpenaaGreatDoorPl22
import Derived.Test.YtbfimfjhdbpenaaGreatDoorPl23
import Derived.Test.YtbfimfjhdbpenaaGreatDoorPl21
import Derived.Maps.OwnSet
import Derived.Maps.OwnOps
import Derived.Deep.RegionHeld3
/- Layer 8: the program's maps of operations. -/
namespace Go.Proofs.YtbfimfjhdbpenaaGreatDoor
open Go Go.RowKit Go.Maps Go.BigFrame
def fnR (v : Value) : Option (DataW Unit × List MemPlace) :=
  match v with
  | .func (.func f) a c => if a.size = 0 ∧ c.size = 0 then some (.lit (.int .i64 (f : Nat)), []) else none
  | .nilFunc => some (.lit (.int .i64 (-1)), [])
  | _ => none
theorem fnR_inv {v : Value} {f : Nat} {ps : List MemPlace} (h : fnR v = some (.lit (.int .i64 (f : Nat)), ps)) : v = .func (.func f) #[] #[] := by
  unfold fnR at h
  split at h
  · next g a c =>
    split at h
    · next e =>
      injection h with h
      injection h with h1 _
      injection h1 with h1
      injection h1 with _ h1
      have h1 : g = f := by exact_mod_cast h1
      subst h1
      rw [Array.eq_empty_of_size_eq_zero e.1, Array.eq_empty_of_size_eq_zero e.2]
    · cases h
  · injection h with h
    injection h with h1 _
    injection h1 with h1
    injection h1 with _ h1
    omega
  · cases h
theorem lookF_run {P : Program} {w : World} (t k e : TypeId) (KK : Keyed P k) (ht : P.underlying t = some (.map k e)) (hz : (zeroValue e).run P w = .ok .nilFunc w) (b n : Nat) (D : DataW Unit) (hown : w.ownsMap P k fnR b n D) (key : Value) (kl : Lit) (hkey : keyOf P k key = some kl)
    (f : Nat) (hat : D.atKey kl (.lit (.int .i64 (-1))) = .lit (.int .i64 (f : Nat))) : (Instr.lookup t (.map (some b)) key false).run P w = .ok (.func (.func f) #[] #[]) w := by
  obtain ⟨v, ps, hrun, hv⟩ := hown.lookup KK ht hz (zd := .lit (.int .i64 (-1))) (zp := []) rfl hkey
  rw [hat] at hv
  obtain rfl := fnR_inv hv
  exact hrun
theorem wpList_insF {P : Program} (w : World) {ops : Array Oper} {rest : List Oper} {o : Oper} {a : Act} {Q : Exit → Act → World → Prop}
    (hg : o.guard = none) (m x v : Operand) (t : TypeId) (hop : o.op = Op.insert t m x v)
    (k e : TypeId) (K : Keyed P k) (ht : P.underlying t = some (.map k e)) (R : Value → Option (DataW Unit × List MemPlace)) (b n : Nat) (D : DataW Unit)
    (hm : a.eval m = .map (some b)) (hown : w.ownsMap P k R b n D) (hn : n < maxLen) (key val : Value) (kl : Lit) (hx : a.eval x = key) (hv : a.eval v = val) (hkey : keyOf P k key = some kl)
    (d : DataW Unit) (ps : List MemPlace) (hval : R val = some (d, ps))
    (hK : ∀ w', w'.ownsMap P k R b (n + 1) (D.put kl d) → w.grownBy w' (some b) → wpList P ops Q rest (a.put o.dst undef) w') :
    wpList P ops Q (o :: rest) a w := by
  refine wpList_plain hg fun K' hK' => ?_
  obtain ⟨w', hrun, r1, r2⟩ := hown.update K ht hn hkey hval
  unfold Oper.wp
  simp [execOp, hop, hm, hx, hv, hrun, Result.andThen]
  exact hK' _ _ (hK w' r1 r2)
theorem u8K : Keyed Tryz.prog 5 := int_keyed Tryz.underlying5
def opsD : DataW Unit := ((((((DataW.map [] : DataW Unit)).put (.int .u8 4) (.lit (.int .i64 ((128 : Nat) : Int)))).put (.int .u8 5) (.lit (.int .i64 ((129 : Nat) : Int)))).put (.int .u8 6) (.lit (.int .i64 ((130 : Nat) : Int)))).put (.int .u8 7) (.lit (.int .i64 ((131 : Nat) : Int)))).put (.int .u8 8) (.lit (.int .i64 ((132 : Nat) : Int)))
def opsR (w : World) (e : Ending) (w' : World) : Prop := ∃ B, e = .returned (.map (some B)) ∧ w'.ownsMap Tryz.prog 5 fnR B 5 opsD ∧ Below w.heap.size w w'
theorem zero_ops (w : World) : (zeroValue 128).run Tryz.prog w = .ok .nilFunc w := by kernel_rfl
theorem at_ops4 : opsD.atKey (.int .u8 4) (.lit (.int .i64 (-1))) = .lit (.int .i64 ((128 : Nat) : Int)) := by rfl
theorem at_ops5 : opsD.atKey (.int .u8 5) (.lit (.int .i64 (-1))) = .lit (.int .i64 ((129 : Nat) : Int)) := by rfl
theorem at_ops6 : opsD.atKey (.int .u8 6) (.lit (.int .i64 (-1))) = .lit (.int .i64 ((130 : Nat) : Int)) := by rfl
theorem at_ops7 : opsD.atKey (.int .u8 7) (.lit (.int .i64 (-1))) = .lit (.int .i64 ((131 : Nat) : Int)) := by rfl
theorem at_ops8 : opsD.atKey (.int .u8 8) (.lit (.int .i64 (-1))) = .lit (.int .i64 ((132 : Nat) : Int)) := by rfl
set_option maxRecDepth 100000 in
set_option maxHeartbeats 1600000 in
theorem pops_any (w : World) : Calls Tryz.prog 91 #[] w (opsR w) := by
  have hmm := @run_makeMap Tryz.prog
  have k0 : keyOf Tryz.prog 5 (.int .u8 4) = some (.int .u8 4) := keyOf_int_mk Tryz.underlying5 (by decide)
  have e0 : fnR (.func (.func 128) #[] #[]) = some (.lit (.int .i64 ((128 : Nat) : Int)), []) := rfl
  have k1 : keyOf Tryz.prog 5 (.int .u8 5) = some (.int .u8 5) := keyOf_int_mk Tryz.underlying5 (by decide)
  have e1 : fnR (.func (.func 129) #[] #[]) = some (.lit (.int .i64 ((129 : Nat) : Int)), []) := rfl
  have k2 : keyOf Tryz.prog 5 (.int .u8 6) = some (.int .u8 6) := keyOf_int_mk Tryz.underlying5 (by decide)
  have e2 : fnR (.func (.func 130) #[] #[]) = some (.lit (.int .i64 ((130 : Nat) : Int)), []) := rfl
  have k3 : keyOf Tryz.prog 5 (.int .u8 7) = some (.int .u8 7) := keyOf_int_mk Tryz.underlying5 (by decide)
  have e3 : fnR (.func (.func 131) #[] #[]) = some (.lit (.int .i64 ((131 : Nat) : Int)), []) := rfl
  have k4 : keyOf Tryz.prog 5 (.int .u8 8) = some (.int .u8 8) := keyOf_int_mk Tryz.underlying5 (by decide)
  have e4 : fnR (.func (.func 132) #[] #[]) = some (.lit (.int .i64 ((132 : Nat) : Int)), []) := rfl
  have o0 := World.ownsMap_made w Tryz.prog 5 fnR
  have hb0 : Below w.heap.size w (w.alloc (.map #[] 0)) := (Below.refl _ _).alloc (Nat.le_refl _) _
  go_enter Tryz.func91, Tryz.ntmps91
  go_wp2_with (first
    | (refine wpList_insF _ rfl _ _ _ 129 rfl 5 128 u8K Tryz.underlying129 _ _ _ _ rfl o0 (by unfold maxLen; omega) _ _ _ rfl rfl k0 _ [] e0 ?_; intro w1 o1 g1)
    | (refine wpList_insF _ rfl _ _ _ 129 rfl 5 128 u8K Tryz.underlying129 _ _ _ _ rfl o1 (by unfold maxLen; omega) _ _ _ rfl rfl k1 _ [] e1 ?_; intro w2 o2 g2)
    | (refine wpList_insF _ rfl _ _ _ 129 rfl 5 128 u8K Tryz.underlying129 _ _ _ _ rfl o2 (by unfold maxLen; omega) _ _ _ rfl rfl k2 _ [] e2 ?_; intro w3 o3 g3)
    | (refine wpList_insF _ rfl _ _ _ 129 rfl 5 128 u8K Tryz.underlying129 _ _ _ _ rfl o3 (by unfold maxLen; omega) _ _ _ rfl rfl k3 _ [] e3 ?_; intro w4 o4 g4)
    | (refine wpList_insF _ rfl _ _ _ 129 rfl 5 128 u8K Tryz.underlying129 _ _ _ _ rfl o4 (by unfold maxLen; omega) _ _ _ rfl rfl k4 _ [] e4 ?_; intro w5 o5 g5))
  have b1 := hb0.grown g1 (by simp) (fun k hk => by cases hk; exact Nat.le_refl _)
  have b2 := b1.grown g2 b1.size (fun k hk => by cases hk; exact Nat.le_refl _)
  have b3 := b2.grown g3 b2.size (fun k hk => by cases hk; exact Nat.le_refl _)
  have b4 := b3.grown g4 b3.size (fun k hk => by cases hk; exact Nat.le_refl _)
  have b5 := b4.grown g5 b4.size (fun k hk => by cases hk; exact Nat.le_refl _)
  have h6 : opsR w (.returned (.map (some w.heap.size))) w5 := ⟨_, rfl, o5, b5⟩
  clear hmm hb0 o0 g1 o1 b1 g2 o2 b2 g3 o3 b3 g4 o4 b4 g5 o5 b5
  go_ret
  exact h6
def cpsD : DataW Unit := (((DataW.map [] : DataW Unit)).put (.int .u8 11) (.lit (.int .i64 ((133 : Nat) : Int)))).put (.int .u8 12) (.lit (.int .i64 ((134 : Nat) : Int)))
def cpsR (w : World) (e : Ending) (w' : World) : Prop := ∃ B, e = .returned (.map (some B)) ∧ w'.ownsMap Tryz.prog 5 fnR B 2 cpsD ∧ Below w.heap.size w w'
theorem zero_cps (w : World) : (zeroValue 131).run Tryz.prog w = .ok .nilFunc w := by kernel_rfl
theorem at_cps11 : cpsD.atKey (.int .u8 11) (.lit (.int .i64 (-1))) = .lit (.int .i64 ((133 : Nat) : Int)) := by rfl
theorem at_cps12 : cpsD.atKey (.int .u8 12) (.lit (.int .i64 (-1))) = .lit (.int .i64 ((134 : Nat) : Int)) := by rfl
set_option maxRecDepth 100000 in
set_option maxHeartbeats 1600000 in
theorem pcps_any (w : World) : Calls Tryz.prog 95 #[] w (cpsR w) := by
  have hmm := @run_makeMap Tryz.prog
  have k0 : keyOf Tryz.prog 5 (.int .u8 11) = some (.int .u8 11) := keyOf_int_mk Tryz.underlying5 (by decide)
  have e0 : fnR (.func (.func 133) #[] #[]) = some (.lit (.int .i64 ((133 : Nat) : Int)), []) := rfl
  have k1 : keyOf Tryz.prog 5 (.int .u8 12) = some (.int .u8 12) := keyOf_int_mk Tryz.underlying5 (by decide)
  have e1 : fnR (.func (.func 134) #[] #[]) = some (.lit (.int .i64 ((134 : Nat) : Int)), []) := rfl
  have o0 := World.ownsMap_made w Tryz.prog 5 fnR
  have hb0 : Below w.heap.size w (w.alloc (.map #[] 0)) := (Below.refl _ _).alloc (Nat.le_refl _) _
  go_enter Tryz.func95, Tryz.ntmps95
  go_wp2_with (first
    | (refine wpList_insF _ rfl _ _ _ 132 rfl 5 131 u8K Tryz.underlying132 _ _ _ _ rfl o0 (by unfold maxLen; omega) _ _ _ rfl rfl k0 _ [] e0 ?_; intro w1 o1 g1)
    | (refine wpList_insF _ rfl _ _ _ 132 rfl 5 131 u8K Tryz.underlying132 _ _ _ _ rfl o1 (by unfold maxLen; omega) _ _ _ rfl rfl k1 _ [] e1 ?_; intro w2 o2 g2))
  have b1 := hb0.grown g1 (by simp) (fun k hk => by cases hk; exact Nat.le_refl _)
  have b2 := b1.grown g2 b1.size (fun k hk => by cases hk; exact Nat.le_refl _)
  have h6 : cpsR w (.returned (.map (some w.heap.size))) w2 := ⟨_, rfl, o2, b2⟩
  clear hmm hb0 o0 g1 o1 b1 g2 o2 b2
  go_ret
  exact h6
end Go.Proofs.YtbfimfjhdbpenaaGreatDoor
/- Layer 8: the program's evaluation: what it stands on. -/
namespace Go.Proofs.YtbfimfjhdbpenaaGreatDoor
open Go Go.RowKit Go.BigFrame
abbrev evV (day : Int) (E : Ev) : Value := .agg #[.int .i64 day, .slice E.fA E.fs.length E.fc, .slice E.cA E.cs.length E.cc]
structure PvG (Q : Nat) (day : Int) (k : Int) (r n : ByteArray) (d : Int) (A : Option Addr) (l c : Nat) (fA : Option Addr) (fl fc : Nat) (cA : Option Addr) (cl cc : Nat) (W : World) : Prop where
  e0 : W.cell? ⟨Q, 0, none⟩ = some (.int .i64 day)
  e1 : W.cell? ⟨Q, 1, none⟩ = some (.slice fA fl fc)
  e2 : W.cell? ⟨Q, 2, none⟩ = some (.slice cA cl cc)
  c0 : W.cell? ⟨Q + 1, 0, none⟩ = some (.int .u8 k)
  c1 : W.cell? ⟨Q + 1, 1, none⟩ = some (.string r)
  c2 : W.cell? ⟨Q + 1, 2, none⟩ = some (.string n)
  c3 : W.cell? ⟨Q + 1, 3, none⟩ = some (.int .i64 d)
  c4 : W.cell? ⟨Q + 1, 4, none⟩ = some (.slice A l c)
section
variable {Q : Nat} {day k : Int} {r n : ByteArray} {d : Int} {A : Option Addr} {l c : Nat} {fA : Option Addr} {fl fc : Nat} {cA : Option Addr} {cl cc : Nat}
theorem PvG.below {W W' : World} (h : PvG Q day k r n d A l c fA fl fc cA cl cc W) (hb : Below W.heap.size W W') : PvG Q day k r n d A l c fA fl fc cA cl cc W' :=
  ⟨cellO hb h.e0, cellO hb h.e1, cellO hb h.e2, cellO hb h.c0, cellO hb h.c1, cellO hb h.c2, cellO hb h.c3, cellO hb h.c4⟩
theorem PvG.of (w : World) (t1 t2 : TypeId) : PvG w.heap.size day k r n d A l c fA fl fc cA cl cc ((w.alloc (.cells #[.int .i64 day, .slice fA fl fc, .slice cA cl cc] t1)).alloc (.cells #[.int .u8 k, .string r, .string n, .int .i64 d, .slice A l c] t2)) := by
  have hb := belO (w.alloc (.cells #[.int .i64 day, .slice fA fl fc, .slice cA cl cc] t1)) (.cells #[.int .u8 k, .string r, .string n, .int .i64 d, .slice A l c] t2)
  have h1 : (w.alloc (.cells #[.int .i64 day, .slice fA fl fc, .slice cA cl cc] t1)).heap[w.heap.size]? = some (.cells #[.int .i64 day, .slice fA fl fc, .slice cA cl cc] t1 (0, 0)) := heap_alloc_new w _
  have h2 := heap_alloc_new (w.alloc (.cells #[.int .i64 day, .slice fA fl fc, .slice cA cl cc] t1)) (.cells #[.int .u8 k, .string r, .string n, .int .i64 d, .slice A l c] t2)
  rw [World.size_alloc] at h2
  exact ⟨cellO hb (row_cell (j := 0) h1 rfl), cellO hb (row_cell (j := 1) h1 rfl), cellO hb (row_cell (j := 2) h1 rfl), row_cell (j := 0) h2 rfl, row_cell (j := 1) h2 rfl, row_cell (j := 2) h2 rfl, row_cell (j := 3) h2 rfl, row_cell (j := 4) h2 rfl⟩
end
theorem pv_begin (w : World) (day k : Int) (r n : ByteArray) (d : Int) (A : Option Addr) (l c : Nat) (fA : Option Addr) (fl fc : Nat) (cA : Option Addr) (cl cc : Nat) :
    ∃ w1, (w.alloc (.cells #[.int .i64 day, .slice fA fl fc, .slice cA cl cc] 84)).alloc (.cells #[.int .u8 k, .string r, .string n, .int .i64 d, .slice A l c] 26) = w1 ∧ Below w.heap.size w w1 ∧ PvG w.heap.size day k r n d A l c fA fl fc cA cl cc w1 :=
  ⟨_, rfl, btO (belO w _) (belO _ _), PvG.of w _ _⟩
theorem PvG.zs {Q : Nat} {day k : Int} {r n : ByteArray} {d : Int} {A : Option Addr} {l c : Nat} {fA : Option Addr} {fl fc : Nat} {cA : Option Addr} {cl cc : Nat} {W : World} (h : PvG Q day k r n d A l c fA fl fc cA cl cc W) :
    (∀ z : Bel W, z.1.cell? ⟨Q, 0, none⟩ = some (.int .i64 day)) ∧ (∀ z : Bel W, z.1.cell? ⟨Q, 1, none⟩ = some (.slice fA fl fc)) ∧ (∀ z : Bel W, z.1.cell? ⟨Q, 2, none⟩ = some (.slice cA cl cc)) ∧ (∀ z : Bel W, z.1.cell? ⟨Q + 1, 0, none⟩ = some (.int .u8 k)) ∧ (∀ z : Bel W, z.1.cell? ⟨Q + 1, 1, none⟩ = some (.string r)) ∧ (∀ z : Bel W, z.1.cell? ⟨Q + 1, 2, none⟩ = some (.string n)) ∧ (∀ z : Bel W, z.1.cell? ⟨Q + 1, 3, none⟩ = some (.int .i64 d)) ∧ (∀ z : Bel W, z.1.cell? ⟨Q + 1, 4, none⟩ = some (.slice A l c)) :=
  ⟨fun z => z.cell h.e0, fun z => z.cell h.e1, fun z => z.cell h.e2, fun z => z.cell h.c0, fun z => z.cell h.c1, fun z => z.cell h.c2, fun z => z.cell h.c3, fun z => z.cell h.c4⟩
structure Ev.Inv (E : Ev) (W : World) : Prop where
  i : E.In W
  v : VarR W
theorem Ev.Inv.below {E : Ev} {W W' : World} (h : E.Inv W) (hb : Below W.heap.size W W') : E.Inv W' := ⟨h.i.below hb, h.v.below hb⟩
def PrE (a b : ByteArray) (c : Int) (w : World) (e : Ending) (w' : World) : Prop := e = .returned (.tuple #[.agg #[.string a, .string b], .int .i64 c]) ∧ Below w.heap.size w w'
set_option maxRecDepth 100000 in
theorem pfixing_any (E : Ev) (day : Int) (n : ByteArray) (d : Int) (w : World) (hin : E.In w) : Calls Tryz.prog 88 #[evV day E, .string n, .int .i64 d] w (StE (lkN E.fs n d).1 (lkN E.fs n d).2 w) := by
  obtain ⟨fA, fs, fc, cA, cs, cc⟩ := E
  have HB1 := belO w (.cells #[.int .i64 day, .slice fA fs.length fc, .slice cA cs.length cc] 84)
  have hr := heap_alloc_new w (.cells #[.int .i64 day, .slice fA fs.length fc, .slice cA cs.length cc] 84)
  have c0 := row_cell (j := 0) hr rfl
  have c1 := row_cell (j := 1) hr rfl
  have c2 := row_cell (j := 2) hr rfl
  have HF := Lib.hid (pfind_anyO ⟨fA, fs, fc, cA, cs, cc⟩ n d _ (hin.below HB1))
  have HB := Lib.hid HB1
  unfold lkN
  show Calls Tryz.prog 88 #[.agg #[.int .i64 day, .slice fA fs.length fc, .slice cA cs.length cc], .string n, .int .i64 d] w (StE (if fndB fs n d = true then (fndV fs n d, 0) else (⟨#[]⟩, 30) : NR).1 (if fndB fs n d = true then (fndV fs n d, 0) else (⟨#[]⟩, 30) : NR).2 w)
  have HF2 : Hid (Calls Tryz.prog 28 #[.agg #[.slice fA fs.length fc, .slice cA cs.length cc], .string n, .int .i64 d] (w.alloc (.cells #[.int .i64 day, .slice fA fs.length fc, .slice cA cs.length cc] 84)) (FndE (fndV fs n d) (fndB fs n d) _)) := HF.out
  clear HF hin HB1 hr
  generalize fndV fs n d = v at *
  generalize fndB fs n d = bb at *
  cases bb
  all_goals
    simp only [Bool.false_eq_true, if_false, if_true]
    go_enter Tryz.func88, Tryz.ntmps88
    go_wp2_with (go_at_call 28; ((with_reducible refine HF2.out.mono ?_); rintro x w2 ⟨rfl, hb⟩; have HW2 := Lib.hid (btO HB.out hb); clear hb))
    go_ret2
    exact ⟨rfl, HW2.out⟩
set_option maxRecDepth 100000 in
theorem pp_sum (va vb : ByteArray) (v : ByteArray) (e : Int) (w : World) (ho : ∀ W, Below w.heap.size w W → Calls Tryz.prog 40 #[.string va, .string vb] W (StE v e W)) : Calls Tryz.prog 128 #[.agg #[.string va, .string vb]] w (StE v e w) := by
  have HB := Lib.hid (belO w (.cells #[.string va, .string vb] 125))
  have hr := heap_alloc_new w (.cells #[.string va, .string vb] 125)
  have c0 := row_cell (j := 0) hr rfl
  have c1 := row_cell (j := 1) hr rfl
  have HO := Lib.hid ho
  clear ho hr
  go_enter Tryz.func128, Tryz.ntmps128
  go_wp2_with (go_at_call 40; ((with_reducible refine (HO.out _ HB.out).mono ?_); rintro x w2 ⟨rfl, hb⟩; have e0 := cellO hb c0; have e1 := cellO hb c1; have HW2 := Lib.hid (btO HB.out hb); clear hb))
  all_goals go_ret2
  all_goals exact ⟨rfl, HW2.out⟩
set_option maxRecDepth 100000 in
theorem pp_difference (va vb : ByteArray) (v : ByteArray) (e : Int) (w : World) (ho : ∀ W, Below w.heap.size w W → Calls Tryz.prog 41 #[.string va, .string vb] W (StE v e W)) : Calls Tryz.prog 129 #[.agg #[.string va, .string vb]] w (StE v e w) := by
  have HB := Lib.hid (belO w (.cells #[.string va, .string vb] 125))
  have hr := heap_alloc_new w (.cells #[.string va, .string vb] 125)
  have c0 := row_cell (j := 0) hr rfl
  have c1 := row_cell (j := 1) hr rfl
  have HO := Lib.hid ho
  clear ho hr
  go_enter Tryz.func129, Tryz.ntmps129
  go_wp2_with (go_at_call 41; ((with_reducible refine (HO.out _ HB.out).mono ?_); rintro x w2 ⟨rfl, hb⟩; have e0 := cellO hb c0; have e1 := cellO hb c1; have HW2 := Lib.hid (btO HB.out hb); clear hb))
  all_goals go_ret2
  all_goals exact ⟨rfl, HW2.out⟩
set_option maxRecDepth 100000 in
theorem pp_product (va vb : ByteArray) (v : ByteArray) (e : Int) (w : World) (ho : ∀ W, Below w.heap.size w W → Calls Tryz.prog 42 #[.string va, .string vb] W (StE v e W)) : Calls Tryz.prog 130 #[.agg #[.string va, .string vb]] w (StE v e w) := by
  have HB := Lib.hid (belO w (.cells #[.string va, .string vb] 125))
  have hr := heap_alloc_new w (.cells #[.string va, .string vb] 125)
  have c0 := row_cell (j := 0) hr rfl
  have c1 := row_cell (j := 1) hr rfl
  have HO := Lib.hid ho
  clear ho hr
  go_enter Tryz.func130, Tryz.ntmps130
  go_wp2_with (go_at_call 42; ((with_reducible refine (HO.out _ HB.out).mono ?_); rintro x w2 ⟨rfl, hb⟩; have e0 := cellO hb c0; have e1 := cellO hb c1; have HW2 := Lib.hid (btO HB.out hb); clear hb))
  all_goals go_ret2
  all_goals exact ⟨rfl, HW2.out⟩
set_option maxRecDepth 100000 in
theorem pp_greater_b (va vb : ByteArray) (r : Int) (w : World) (hr : decide (r < 0) = true) (ho : ∀ W, Below w.heap.size w W → Calls Tryz.prog 39 #[.string va, .string vb] W (CmE r 0 W)) : Calls Tryz.prog 131 #[.agg #[.string va, .string vb]] w (StE vb 0 w) := by
  have HB := Lib.hid (belO w (.cells #[.string va, .string vb] 125))
  have hr := heap_alloc_new w (.cells #[.string va, .string vb] 125)
  have c0 := row_cell (j := 0) hr rfl
  have c1 := row_cell (j := 1) hr rfl
  have HO := Lib.hid ho
  clear ho hr
  go_enter Tryz.func131, Tryz.ntmps131
  go_wp2_with (go_at_call 39; ((with_reducible refine (HO.out _ HB.out).mono ?_); rintro x w2 ⟨rfl, hb⟩; have e0 := cellO hb c0; have e1 := cellO hb c1; have HW2 := Lib.hid (btO HB.out hb); clear hb))
  all_goals go_ret2
  all_goals exact ⟨rfl, HW2.out⟩
set_option maxRecDepth 100000 in
theorem pp_greater_a (va vb : ByteArray) (r : Int) (w : World) (hr : decide (r < 0) = false) (ho : ∀ W, Below w.heap.size w W → Calls Tryz.prog 39 #[.string va, .string vb] W (CmE r 0 W)) : Calls Tryz.prog 131 #[.agg #[.string va, .string vb]] w (StE va 0 w) := by
  have HB := Lib.hid (belO w (.cells #[.string va, .string vb] 125))
  have hr := heap_alloc_new w (.cells #[.string va, .string vb] 125)
  have c0 := row_cell (j := 0) hr rfl
  have c1 := row_cell (j := 1) hr rfl
  have HO := Lib.hid ho
  clear ho hr
  go_enter Tryz.func131, Tryz.ntmps131
  go_wp2_with (go_at_call 39; ((with_reducible refine (HO.out _ HB.out).mono ?_); rintro x w2 ⟨rfl, hb⟩; have e0 := cellO hb c0; have e1 := cellO hb c1; have HW2 := Lib.hid (btO HB.out hb); clear hb))
  all_goals go_ret2
  all_goals exact ⟨rfl, HW2.out⟩
set_option maxRecDepth 100000 in
theorem pp_greater_e (va vb : ByteArray) (r ea : Int) (w : World) (hea : (ea != 0) = true) (ho : ∀ W, Below w.heap.size w W → Calls Tryz.prog 39 #[.string va, .string vb] W (CmE r ea W)) : Calls Tryz.prog 131 #[.agg #[.string va, .string vb]] w (StE ⟨#[]⟩ ea w) := by
  have HB := Lib.hid (belO w (.cells #[.string va, .string vb] 125))
  have hr := heap_alloc_new w (.cells #[.string va, .string vb] 125)
  have c0 := row_cell (j := 0) hr rfl
  have c1 := row_cell (j := 1) hr rfl
  have HO := Lib.hid ho
  clear ho hr
  go_enter Tryz.func131, Tryz.ntmps131
  go_wp2_with (go_at_call 39; ((with_reducible refine (HO.out _ HB.out).mono ?_); rintro x w2 ⟨rfl, hb⟩; have e0 := cellO hb c0; have e1 := cellO hb c1; have HW2 := Lib.hid (btO HB.out hb); clear hb))
  all_goals go_ret2
  all_goals exact ⟨rfl, HW2.out⟩
set_option maxRecDepth 100000 in
theorem pp_smaller_b (va vb : ByteArray) (r : Int) (w : World) (hr : decide (0 < r) = true) (ho : ∀ W, Below w.heap.size w W → Calls Tryz.prog 39 #[.string va, .string vb] W (CmE r 0 W)) : Calls Tryz.prog 132 #[.agg #[.string va, .string vb]] w (StE vb 0 w) := by
  have HB := Lib.hid (belO w (.cells #[.string va, .string vb] 125))
  have hr := heap_alloc_new w (.cells #[.string va, .string vb] 125)
  have c0 := row_cell (j := 0) hr rfl
  have c1 := row_cell (j := 1) hr rfl
  have HO := Lib.hid ho
  clear ho hr
  go_enter Tryz.func132, Tryz.ntmps132
  go_wp2_with (go_at_call 39; ((with_reducible refine (HO.out _ HB.out).mono ?_); rintro x w2 ⟨rfl, hb⟩; have e0 := cellO hb c0; have e1 := cellO hb c1; have HW2 := Lib.hid (btO HB.out hb); clear hb))
  all_goals go_ret2
  all_goals exact ⟨rfl, HW2.out⟩
set_option maxRecDepth 100000 in
theorem pp_smaller_a (va vb : ByteArray) (r : Int) (w : World) (hr : decide (0 < r) = false) (ho : ∀ W, Below w.heap.size w W → Calls Tryz.prog 39 #[.string va, .string vb] W (CmE r 0 W)) : Calls Tryz.prog 132 #[.agg #[.string va, .string vb]] w (StE va 0 w) := by
  have HB := Lib.hid (belO w (.cells #[.string va, .string vb] 125))
  have hr := heap_alloc_new w (.cells #[.string va, .string vb] 125)
  have c0 := row_cell (j := 0) hr rfl
  have c1 := row_cell (j := 1) hr rfl
  have HO := Lib.hid ho
  clear ho hr
  go_enter Tryz.func132, Tryz.ntmps132
  go_wp2_with (go_at_call 39; ((with_reducible refine (HO.out _ HB.out).mono ?_); rintro x w2 ⟨rfl, hb⟩; have e0 := cellO hb c0; have e1 := cellO hb c1; have HW2 := Lib.hid (btO HB.out hb); clear hb))
  all_goals go_ret2
  all_goals exact ⟨rfl, HW2.out⟩
set_option maxRecDepth 100000 in
theorem pp_smaller_e (va vb : ByteArray) (r ea : Int) (w : World) (hea : (ea != 0) = true) (ho : ∀ W, Below w.heap.size w W → Calls Tryz.prog 39 #[.string va, .string vb] W (CmE r ea W)) : Calls Tryz.prog 132 #[.agg #[.string va, .string vb]] w (StE ⟨#[]⟩ ea w) := by
  have HB := Lib.hid (belO w (.cells #[.string va, .string vb] 125))
  have hr := heap_alloc_new w (.cells #[.string va, .string vb] 125)
  have c0 := row_cell (j := 0) hr rfl
  have c1 := row_cell (j := 1) hr rfl
  have HO := Lib.hid ho
  clear ho hr
  go_enter Tryz.func132, Tryz.ntmps132
  go_wp2_with (go_at_call 39; ((with_reducible refine (HO.out _ HB.out).mono ?_); rintro x w2 ⟨rfl, hb⟩; have e0 := cellO hb c0; have e1 := cellO hb c1; have HW2 := Lib.hid (btO HB.out hb); clear hb))
  all_goals go_ret2
  all_goals exact ⟨rfl, HW2.out⟩
set_option maxRecDepth 100000 in
theorem pp_less_t (va vb : ByteArray) (r : Int) (w : World) (hr : decide (r < 0) = true) (ho : ∀ W, Below w.heap.size w W → Calls Tryz.prog 39 #[.string va, .string vb] W (CmE r 0 W)) : Calls Tryz.prog 133 #[.agg #[.string va, .string vb]] w (TrE true 0 w) := by
  have HB := Lib.hid (belO w (.cells #[.string va, .string vb] 125))
  have hr := heap_alloc_new w (.cells #[.string va, .string vb] 125)
  have c0 := row_cell (j := 0) hr rfl
  have c1 := row_cell (j := 1) hr rfl
  have HO := Lib.hid ho
  clear ho hr
  go_enter Tryz.func133, Tryz.ntmps133
  go_wp2_with (go_at_call 39; ((with_reducible refine (HO.out _ HB.out).mono ?_); rintro x w2 ⟨rfl, hb⟩; have e0 := cellO hb c0; have e1 := cellO hb c1; have HW2 := Lib.hid (btO HB.out hb); clear hb))
  all_goals go_ret2
  all_goals exact ⟨rfl, HW2.out⟩
set_option maxRecDepth 100000 in
theorem pp_less_f (va vb : ByteArray) (r : Int) (w : World) (hr : decide (r < 0) = false) (ho : ∀ W, Below w.heap.size w W → Calls Tryz.prog 39 #[.string va, .string vb] W (CmE r 0 W)) : Calls Tryz.prog 133 #[.agg #[.string va, .string vb]] w (TrE false 0 w) := by
  have HB := Lib.hid (belO w (.cells #[.string va, .string vb] 125))
  have hr := heap_alloc_new w (.cells #[.string va, .string vb] 125)
  have c0 := row_cell (j := 0) hr rfl
  have c1 := row_cell (j := 1) hr rfl
  have HO := Lib.hid ho
  clear ho hr
  go_enter Tryz.func133, Tryz.ntmps133
  go_wp2_with (go_at_call 39; ((with_reducible refine (HO.out _ HB.out).mono ?_); rintro x w2 ⟨rfl, hb⟩; have e0 := cellO hb c0; have e1 := cellO hb c1; have HW2 := Lib.hid (btO HB.out hb); clear hb))
  all_goals go_ret2
  all_goals exact ⟨rfl, HW2.out⟩
set_option maxRecDepth 100000 in
theorem pp_less_e (va vb : ByteArray) (r ea : Int) (w : World) (hea : (ea == 0) = false) (ho : ∀ W, Below w.heap.size w W → Calls Tryz.prog 39 #[.string va, .string vb] W (CmE r ea W)) : Calls Tryz.prog 133 #[.agg #[.string va, .string vb]] w (TrE false ea w) := by
  have HB := Lib.hid (belO w (.cells #[.string va, .string vb] 125))
  have hr := heap_alloc_new w (.cells #[.string va, .string vb] 125)
  have c0 := row_cell (j := 0) hr rfl
  have c1 := row_cell (j := 1) hr rfl
  have HO := Lib.hid ho
  clear ho hr
  go_enter Tryz.func133, Tryz.ntmps133
  go_wp2_with (go_at_call 39; ((with_reducible refine (HO.out _ HB.out).mono ?_); rintro x w2 ⟨rfl, hb⟩; have e0 := cellO hb c0; have e1 := cellO hb c1; have HW2 := Lib.hid (btO HB.out hb); clear hb))
  all_goals go_ret2
  all_goals exact ⟨rfl, HW2.out⟩
set_option maxRecDepth 100000 in
theorem pp_equal_t (va vb : ByteArray) (r : Int) (w : World) (hr : (r == 0) = true) (ho : ∀ W, Below w.heap.size w W → Calls Tryz.prog 39 #[.string va, .string vb] W (CmE r 0 W)) : Calls Tryz.prog 134 #[.agg #[.string va, .string vb]] w (TrE true 0 w) := by
  have HB := Lib.hid (belO w (.cells #[.string va, .string vb] 125))
  have hr := heap_alloc_new w (.cells #[.string va, .string vb] 125)
  have c0 := row_cell (j := 0) hr rfl
  have c1 := row_cell (j := 1) hr rfl
  have HO := Lib.hid ho
  clear ho hr
  go_enter Tryz.func134, Tryz.ntmps134
  go_wp2_with (go_at_call 39; ((with_reducible refine (HO.out _ HB.out).mono ?_); rintro x w2 ⟨rfl, hb⟩; have e0 := cellO hb c0; have e1 := cellO hb c1; have HW2 := Lib.hid (btO HB.out hb); clear hb))
  all_goals go_ret2
  all_goals exact ⟨rfl, HW2.out⟩
set_option maxRecDepth 100000 in
theorem pp_equal_f (va vb : ByteArray) (r : Int) (w : World) (hr : (r == 0) = false) (ho : ∀ W, Below w.heap.size w W → Calls Tryz.prog 39 #[.string va, .string vb] W (CmE r 0 W)) : Calls Tryz.prog 134 #[.agg #[.string va, .string vb]] w (TrE false 0 w) := by
  have HB := Lib.hid (belO w (.cells #[.string va, .string vb] 125))
  have hr := heap_alloc_new w (.cells #[.string va, .string vb] 125)
  have c0 := row_cell (j := 0) hr rfl
  have c1 := row_cell (j := 1) hr rfl
  have HO := Lib.hid ho
  clear ho hr
  go_enter Tryz.func134, Tryz.ntmps134
  go_wp2_with (go_at_call 39; ((with_reducible refine (HO.out _ HB.out).mono ?_); rintro x w2 ⟨rfl, hb⟩; have e0 := cellO hb c0; have e1 := cellO hb c1; have HW2 := Lib.hid (btO HB.out hb); clear hb))
  all_goals go_ret2
  all_goals exact ⟨rfl, HW2.out⟩
set_option maxRecDepth 100000 in
theorem pp_equal_e (va vb : ByteArray) (r ea : Int) (w : World) (hea : (ea == 0) = false) (ho : ∀ W, Below w.heap.size w W → Calls Tryz.prog 39 #[.string va, .string vb] W (CmE r ea W)) : Calls Tryz.prog 134 #[.agg #[.string va, .string vb]] w (TrE false ea w) := by
  have HB := Lib.hid (belO w (.cells #[.string va, .string vb] 125))
  have hr := heap_alloc_new w (.cells #[.string va, .string vb] 125)
  have c0 := row_cell (j := 0) hr rfl
  have c1 := row_cell (j := 1) hr rfl
  have HO := Lib.hid ho
  clear ho hr
  go_enter Tryz.func134, Tryz.ntmps134
  go_wp2_with (go_at_call 39; ((with_reducible refine (HO.out _ HB.out).mono ?_); rintro x w2 ⟨rfl, hb⟩; have e0 := cellO hb c0; have e1 := cellO hb c1; have HW2 := Lib.hid (btO HB.out hb); clear hb))
  all_goals go_ret2
  all_goals exact ⟨rfl, HW2.out⟩
end Go.Proofs.YtbfimfjhdbpenaaGreatDoor
/- Layer 8: the program's evaluation: pair, chosen, both, either, not. -/
namespace Go.Proofs.YtbfimfjhdbpenaaGreatDoor
open Go Go.RowKit Go.Maps Go.BigFrame
set_option maxRecDepth 100000 in
set_option maxHeartbeats 6400000 in
theorem ppair_e1 (kk : Int) (va : ByteArray) (ea : Int) (rr nn : ByteArray) (dd : Int) (A : Option Addr) (c : Nat) (x y : Ex) (E : Ev) (day : Int) (w : World) (hin : Ex.In w (.mk kk rr nn dd A c [x, y])) (hE : E.Inv w) (hx : ∀ W, x.In W → E.Inv W → Calls Tryz.prog 51 #[evV day E, x.val] W (fun e w' => e = .returned (.tuple #[.string va, .int .i64 ea]) ∧ Below W.heap.size W w')) (hea : (ea != 0) = true) :
    Calls Tryz.prog 90 #[evV day E, Ex.val (.mk kk rr nn dd A c [x, y])] w (PrE ⟨#[]⟩ ⟨#[]⟩ ea w) := by
  obtain ⟨b, o, rfl, ix, qx, iy, qy⟩ := hin.ptc2
  obtain ⟨fA, fs, fc, cA, cs, cc⟩ := E
  obtain ⟨w0, hw0, hB, hS⟩ := pv_begin w day kk rr nn dd (some ⟨b, o, none⟩) 2 c fA fs.length fc cA cs.length cc
  have hS := hS.below (belO _ (.cells #[.string ⟨#[]⟩, .string ⟨#[]⟩] 125))
  have hB := btO hB (belO _ (.cells #[.string ⟨#[]⟩, .string ⟨#[]⟩] 125))
  have hR := heap_alloc_new w0 (.cells #[.string ⟨#[]⟩, .string ⟨#[]⟩] 125)
  have hw2 : w0.heap.size = w.heap.size + 1 + 1 := by rw [← hw0, World.size_alloc, World.size_alloc]
  rw [hw2] at hR
  obtain ⟨w1, hw1⟩ : ∃ w1, w0.alloc (.cells #[.string ⟨#[]⟩, .string ⟨#[]⟩] 125) = w1 := ⟨_, rfl⟩
  rw [hw1] at hB hS hR
  rw [← hw0] at hw1
  clear hw0 hw2
  have HB := Lib.hid hB
  have HR := Lib.hid hR
  have HG := Lib.hid (fun W (hW : Below w1.heap.size w1 W) => And.intro (hS.below hW) (And.intro (qx.below (btO hB hW)) (qy.below (btO hB hW))))
  have Hx := Lib.hid (fun W (hW : Below w1.heap.size w1 W) => hx W (ix.below (btO hB hW)) (hE.below (btO hB hW)))
  have HW1 := Lib.hid (Below.refl w1.heap.size w1)
  show Calls Tryz.prog 90 #[.agg #[.int .i64 day, .slice fA fs.length fc, .slice cA cs.length cc], .agg #[.int .u8 kk, .string rr, .string nn, .int .i64 dd, .slice (some ⟨b, o, none⟩) 2 c]] w _
  clear hin hE hB hS hR hx ix iy qx qy
  obtain ⟨⟨e0, e1, e2, c0, c1, c2, c3, c4⟩, ⟨px0, px1, px2, px3, px4⟩, ⟨py0, py1, py2, py3, py4⟩⟩ := HG.out _ HW1.out
  have hr := (HW1.out.block _ (lt_of_block HR.out)).trans HR.out
  have r0 := row_cell (j := 0) hr rfl
  have s0 := row_frz (j := 0) hr
  have r1 := row_cell (j := 1) hr rfl
  have s1 := row_frz (j := 1) hr
  clear hr
  go_enter Tryz.func90, Tryz.ntmps90
  go_wp2_with (fail)
  obtain ⟨gS, gx, gy⟩ := HG.out _ HW1.out
  obtain ⟨ze0, ze1, ze2, zc0, zc1, zc2, zc3, zc4⟩ := gS.zs
  obtain ⟨zpx0, zpx1, zpx2, zpx3, zpx4⟩ := gx.zs
  obtain ⟨zpy0, zpy1, zpy2, zpy3, zpy4⟩ := gy.zs
  clear e0 e1 e2 c0 c1 c2 c3 c4 px0 px1 px2 px3 px4 py0 py1 py2 py3 py4 r0 r1 s0 s1 gS gx gy
  clear hw1
  refine wp_region_bel (by kernel_rfl) (by kernel_rfl) ?_
  repeat (go_big_quiet_step (first
    | (go_at_call 51; with_reducible exact Bel.calls (fun W hW => Hx.out W (btO HW1.out hW)) _)))
  refine wpQuiet_nil ?_
  rintro _ ⟨zz, rfl⟩
  clear ze0 ze1 ze2 zc0 zc1 zc2 zc3 zc4 zpx0 zpx1 zpx2 zpx3 zpx4 zpy0 zpy1 zpy2 zpy3 zpy4
  have HW2 := Lib.hid (btO HW1.out zz.2)
  generalize zz.1 = w2 at *
  obtain ⟨⟨e0, e1, e2, c0, c1, c2, c3, c4⟩, ⟨px0, px1, px2, px3, px4⟩, ⟨py0, py1, py2, py3, py4⟩⟩ := HG.out _ HW2.out
  have hr := (HW2.out.block _ (lt_of_block HR.out)).trans HR.out
  have r0 := row_cell (j := 0) hr rfl
  have s0 := row_frz (j := 0) hr
  have r1 := row_cell (j := 1) hr rfl
  have s1 := row_frz (j := 1) hr
  clear hr
  go_wp2_with (fail)
  all_goals refine bodyPost_ret (v := .tuple #[.agg #[.string ⟨#[]⟩, .string ⟨#[]⟩], .int .i64 ea]) (results_cell_tmp rfl _ _ (w.heap.size + 1 + 1) 125 _ (0, 0) _ (.int .i64 ea) rfl rfl (sc2_row ((HW2.out.block _ (lt_of_block HR.out)).trans HR.out)) Tryz.underlying125 (by kernel_rfl) (by kernel_rfl)) rfl ?_
  all_goals exact ⟨rfl, ((btO HB.out HW2.out).setCell (p := ⟨w.heap.size + 1 + 1, 0, none⟩) (by show _ ≤ w.heap.size + 1 + 1; omega) _).setCell (p := ⟨w.heap.size + 1 + 1, 1, none⟩) (by show _ ≤ w.heap.size + 1 + 1; omega) _⟩
set_option maxRecDepth 100000 in
set_option maxHeartbeats 6400000 in
theorem ppair_e2 (kk : Int) (va vb : ByteArray) (ea : Int) (rr nn : ByteArray) (dd : Int) (A : Option Addr) (c : Nat) (x y : Ex) (E : Ev) (day : Int) (w : World) (hin : Ex.In w (.mk kk rr nn dd A c [x, y])) (hE : E.Inv w) (hx : ∀ W, x.In W → E.Inv W → Calls Tryz.prog 51 #[evV day E, x.val] W (fun e w' => e = .returned (.tuple #[.string va, .int .i64 0]) ∧ Below W.heap.size W w')) (hy : ∀ W, y.In W → E.Inv W → Calls Tryz.prog 51 #[evV day E, y.val] W (fun e w' => e = .returned (.tuple #[.string vb, .int .i64 ea]) ∧ Below W.heap.size W w')) (hea : (ea != 0) = true) :
    Calls Tryz.prog 90 #[evV day E, Ex.val (.mk kk rr nn dd A c [x, y])] w (PrE ⟨#[]⟩ ⟨#[]⟩ ea w) := by
  obtain ⟨b, o, rfl, ix, qx, iy, qy⟩ := hin.ptc2
  obtain ⟨fA, fs, fc, cA, cs, cc⟩ := E
  obtain ⟨w0, hw0, hB, hS⟩ := pv_begin w day kk rr nn dd (some ⟨b, o, none⟩) 2 c fA fs.length fc cA cs.length cc
  have hS := hS.below (belO _ (.cells #[.string ⟨#[]⟩, .string ⟨#[]⟩] 125))
  have hB := btO hB (belO _ (.cells #[.string ⟨#[]⟩, .string ⟨#[]⟩] 125))
  have hR := heap_alloc_new w0 (.cells #[.string ⟨#[]⟩, .string ⟨#[]⟩] 125)
  have hw2 : w0.heap.size = w.heap.size + 1 + 1 := by rw [← hw0, World.size_alloc, World.size_alloc]
  rw [hw2] at hR
  obtain ⟨w1, hw1⟩ : ∃ w1, w0.alloc (.cells #[.string ⟨#[]⟩, .string ⟨#[]⟩] 125) = w1 := ⟨_, rfl⟩
  rw [hw1] at hB hS hR
  rw [← hw0] at hw1
  clear hw0 hw2
  have HB := Lib.hid hB
  have HR := Lib.hid hR
  have HG := Lib.hid (fun W (hW : Below w1.heap.size w1 W) => And.intro (hS.below hW) (And.intro (qx.below (btO hB hW)) (qy.below (btO hB hW))))
  have Hx := Lib.hid (fun W (hW : Below w1.heap.size w1 W) => hx W (ix.below (btO hB hW)) (hE.below (btO hB hW)))
  have Hy := Lib.hid (fun W (hW : Below w1.heap.size w1 W) => hy W (iy.below (btO hB hW)) (hE.below (btO hB hW)))
  have HW1 := Lib.hid (Below.refl w1.heap.size w1)
  show Calls Tryz.prog 90 #[.agg #[.int .i64 day, .slice fA fs.length fc, .slice cA cs.length cc], .agg #[.int .u8 kk, .string rr, .string nn, .int .i64 dd, .slice (some ⟨b, o, none⟩) 2 c]] w _
  clear hin hE hB hS hR hx hy ix iy qx qy
  obtain ⟨⟨e0, e1, e2, c0, c1, c2, c3, c4⟩, ⟨px0, px1, px2, px3, px4⟩, ⟨py0, py1, py2, py3, py4⟩⟩ := HG.out _ HW1.out
  have hr := (HW1.out.block _ (lt_of_block HR.out)).trans HR.out
  have r0 := row_cell (j := 0) hr rfl
  have s0 := row_frz (j := 0) hr
  have r1 := row_cell (j := 1) hr rfl
  have s1 := row_frz (j := 1) hr
  clear hr
  go_enter Tryz.func90, Tryz.ntmps90
  go_wp2_with (fail)
  obtain ⟨gS, gx, gy⟩ := HG.out _ HW1.out
  obtain ⟨ze0, ze1, ze2, zc0, zc1, zc2, zc3, zc4⟩ := gS.zs
  obtain ⟨zpx0, zpx1, zpx2, zpx3, zpx4⟩ := gx.zs
  obtain ⟨zpy0, zpy1, zpy2, zpy3, zpy4⟩ := gy.zs
  clear e0 e1 e2 c0 c1 c2 c3 c4 px0 px1 px2 px3 px4 py0 py1 py2 py3 py4 r0 r1 s0 s1 gS gx gy
  clear hw1
  refine wp_region_bel (by kernel_rfl) (by kernel_rfl) ?_
  repeat (go_big_quiet_step (first
    | (go_at_call 51; with_reducible exact Bel.calls (fun W hW => Hx.out W (btO HW1.out hW)) _)))
  refine wpQuiet_nil ?_
  rintro _ ⟨zz, rfl⟩
  clear ze0 ze1 ze2 zc0 zc1 zc2 zc3 zc4 zpx0 zpx1 zpx2 zpx3 zpx4 zpy0 zpy1 zpy2 zpy3 zpy4
  have HW2 := Lib.hid (btO HW1.out zz.2)
  generalize zz.1 = w2 at *
  obtain ⟨⟨e0, e1, e2, c0, c1, c2, c3, c4⟩, ⟨px0, px1, px2, px3, px4⟩, ⟨py0, py1, py2, py3, py4⟩⟩ := HG.out _ HW2.out
  have hr := (HW2.out.block _ (lt_of_block HR.out)).trans HR.out
  have r0 := row_cell (j := 0) hr rfl
  have s0 := row_frz (j := 0) hr
  have r1 := row_cell (j := 1) hr rfl
  have s1 := row_frz (j := 1) hr
  clear hr
  go_wp2_with (fail)
  obtain ⟨gS, gx, gy⟩ := HG.out _ HW2.out
  obtain ⟨ze0, ze1, ze2, zc0, zc1, zc2, zc3, zc4⟩ := gS.zs
  obtain ⟨zpx0, zpx1, zpx2, zpx3, zpx4⟩ := gx.zs
  obtain ⟨zpy0, zpy1, zpy2, zpy3, zpy4⟩ := gy.zs
  clear e0 e1 e2 c0 c1 c2 c3 c4 px0 px1 px2 px3 px4 py0 py1 py2 py3 py4 r0 r1 s0 s1 gS gx gy
  refine wp_region_bel (by kernel_rfl) (by kernel_rfl) ?_
  repeat (go_big_quiet_step (first
    | (go_at_call 51; with_reducible exact Bel.calls (fun W hW => Hy.out W (btO HW2.out hW)) _)))
  refine wpQuiet_nil ?_
  rintro _ ⟨zz, rfl⟩
  clear ze0 ze1 ze2 zc0 zc1 zc2 zc3 zc4 zpx0 zpx1 zpx2 zpx3 zpx4 zpy0 zpy1 zpy2 zpy3 zpy4
  have HW3 := Lib.hid (btO HW2.out zz.2)
  generalize zz.1 = w3 at *
  obtain ⟨⟨e0, e1, e2, c0, c1, c2, c3, c4⟩, ⟨px0, px1, px2, px3, px4⟩, ⟨py0, py1, py2, py3, py4⟩⟩ := HG.out _ HW3.out
  have hr := (HW3.out.block _ (lt_of_block HR.out)).trans HR.out
  have r0 := row_cell (j := 0) hr rfl
  have s0 := row_frz (j := 0) hr
  have r1 := row_cell (j := 1) hr rfl
  have s1 := row_frz (j := 1) hr
  clear hr
  go_wp2_with (fail)
  all_goals refine bodyPost_ret (v := .tuple #[.agg #[.string ⟨#[]⟩, .string ⟨#[]⟩], .int .i64 ea]) (results_cell_tmp rfl _ _ (w.heap.size + 1 + 1) 125 _ (0, 0) _ (.int .i64 ea) rfl rfl (sc2_row ((HW3.out.block _ (lt_of_block HR.out)).trans HR.out)) Tryz.underlying125 (by kernel_rfl) (by kernel_rfl)) rfl ?_
  all_goals exact ⟨rfl, ((btO HB.out HW3.out).setCell (p := ⟨w.heap.size + 1 + 1, 0, none⟩) (by show _ ≤ w.heap.size + 1 + 1; omega) _).setCell (p := ⟨w.heap.size + 1 + 1, 1, none⟩) (by show _ ≤ w.heap.size + 1 + 1; omega) _⟩
set_option maxRecDepth 100000 in
set_option maxHeartbeats 6400000 in
theorem ppair_ok (kk : Int) (va vb : ByteArray) (rr nn : ByteArray) (dd : Int) (A : Option Addr) (c : Nat) (x y : Ex) (E : Ev) (day : Int) (w : World) (hin : Ex.In w (.mk kk rr nn dd A c [x, y])) (hE : E.Inv w) (hx : ∀ W, x.In W → E.Inv W → Calls Tryz.prog 51 #[evV day E, x.val] W (fun e w' => e = .returned (.tuple #[.string va, .int .i64 0]) ∧ Below W.heap.size W w')) (hy : ∀ W, y.In W → E.Inv W → Calls Tryz.prog 51 #[evV day E, y.val] W (fun e w' => e = .returned (.tuple #[.string vb, .int .i64 0]) ∧ Below W.heap.size W w')) :
    Calls Tryz.prog 90 #[evV day E, Ex.val (.mk kk rr nn dd A c [x, y])] w (PrE va vb 0 w) := by
  obtain ⟨b, o, rfl, ix, qx, iy, qy⟩ := hin.ptc2
  obtain ⟨fA, fs, fc, cA, cs, cc⟩ := E
  obtain ⟨w0, hw0, hB, hS⟩ := pv_begin w day kk rr nn dd (some ⟨b, o, none⟩) 2 c fA fs.length fc cA cs.length cc
  have hS := hS.below (belO _ (.cells #[.string ⟨#[]⟩, .string ⟨#[]⟩] 125))
  have hB := btO hB (belO _ (.cells #[.string ⟨#[]⟩, .string ⟨#[]⟩] 125))
  have hR := heap_alloc_new w0 (.cells #[.string ⟨#[]⟩, .string ⟨#[]⟩] 125)
  have hw2 : w0.heap.size = w.heap.size + 1 + 1 := by rw [← hw0, World.size_alloc, World.size_alloc]
  rw [hw2] at hR
  obtain ⟨w1, hw1⟩ : ∃ w1, w0.alloc (.cells #[.string ⟨#[]⟩, .string ⟨#[]⟩] 125) = w1 := ⟨_, rfl⟩
  rw [hw1] at hB hS hR
  rw [← hw0] at hw1
  clear hw0 hw2
  have HB := Lib.hid hB
  have HR := Lib.hid hR
  have HG := Lib.hid (fun W (hW : Below w1.heap.size w1 W) => And.intro (hS.below hW) (And.intro (qx.below (btO hB hW)) (qy.below (btO hB hW))))
  have Hx := Lib.hid (fun W (hW : Below w1.heap.size w1 W) => hx W (ix.below (btO hB hW)) (hE.below (btO hB hW)))
  have Hy := Lib.hid (fun W (hW : Below w1.heap.size w1 W) => hy W (iy.below (btO hB hW)) (hE.below (btO hB hW)))
  have HW1 := Lib.hid (Below.refl w1.heap.size w1)
  show Calls Tryz.prog 90 #[.agg #[.int .i64 day, .slice fA fs.length fc, .slice cA cs.length cc], .agg #[.int .u8 kk, .string rr, .string nn, .int .i64 dd, .slice (some ⟨b, o, none⟩) 2 c]] w _
  clear hin hE hB hS hR hx hy ix iy qx qy
  obtain ⟨⟨e0, e1, e2, c0, c1, c2, c3, c4⟩, ⟨px0, px1, px2, px3, px4⟩, ⟨py0, py1, py2, py3, py4⟩⟩ := HG.out _ HW1.out
  have hr := (HW1.out.block _ (lt_of_block HR.out)).trans HR.out
  have r0 := row_cell (j := 0) hr rfl
  have s0 := row_frz (j := 0) hr
  have r1 := row_cell (j := 1) hr rfl
  have s1 := row_frz (j := 1) hr
  clear hr
  go_enter Tryz.func90, Tryz.ntmps90
  go_wp2_with (fail)
  obtain ⟨gS, gx, gy⟩ := HG.out _ HW1.out
  obtain ⟨ze0, ze1, ze2, zc0, zc1, zc2, zc3, zc4⟩ := gS.zs
  obtain ⟨zpx0, zpx1, zpx2, zpx3, zpx4⟩ := gx.zs
  obtain ⟨zpy0, zpy1, zpy2, zpy3, zpy4⟩ := gy.zs
  clear e0 e1 e2 c0 c1 c2 c3 c4 px0 px1 px2 px3 px4 py0 py1 py2 py3 py4 r0 r1 s0 s1 gS gx gy
  clear hw1
  refine wp_region_bel (by kernel_rfl) (by kernel_rfl) ?_
  repeat (go_big_quiet_step (first
    | (go_at_call 51; with_reducible exact Bel.calls (fun W hW => Hx.out W (btO HW1.out hW)) _)))
  refine wpQuiet_nil ?_
  rintro _ ⟨zz, rfl⟩
  clear ze0 ze1 ze2 zc0 zc1 zc2 zc3 zc4 zpx0 zpx1 zpx2 zpx3 zpx4 zpy0 zpy1 zpy2 zpy3 zpy4
  have HW2 := Lib.hid (btO HW1.out zz.2)
  generalize zz.1 = w2 at *
  obtain ⟨⟨e0, e1, e2, c0, c1, c2, c3, c4⟩, ⟨px0, px1, px2, px3, px4⟩, ⟨py0, py1, py2, py3, py4⟩⟩ := HG.out _ HW2.out
  have hr := (HW2.out.block _ (lt_of_block HR.out)).trans HR.out
  have r0 := row_cell (j := 0) hr rfl
  have s0 := row_frz (j := 0) hr
  have r1 := row_cell (j := 1) hr rfl
  have s1 := row_frz (j := 1) hr
  clear hr
  go_wp2_with (fail)
  obtain ⟨gS, gx, gy⟩ := HG.out _ HW2.out
  obtain ⟨ze0, ze1, ze2, zc0, zc1, zc2, zc3, zc4⟩ := gS.zs
  obtain ⟨zpx0, zpx1, zpx2, zpx3, zpx4⟩ := gx.zs
  obtain ⟨zpy0, zpy1, zpy2, zpy3, zpy4⟩ := gy.zs
  clear e0 e1 e2 c0 c1 c2 c3 c4 px0 px1 px2 px3 px4 py0 py1 py2 py3 py4 r0 r1 s0 s1 gS gx gy
  refine wp_region_bel (by kernel_rfl) (by kernel_rfl) ?_
  repeat (go_big_quiet_step (first
    | (go_at_call 51; with_reducible exact Bel.calls (fun W hW => Hy.out W (btO HW2.out hW)) _)))
  refine wpQuiet_nil ?_
  rintro _ ⟨zz, rfl⟩
  clear ze0 ze1 ze2 zc0 zc1 zc2 zc3 zc4 zpx0 zpx1 zpx2 zpx3 zpx4 zpy0 zpy1 zpy2 zpy3 zpy4
  have HW3 := Lib.hid (btO HW2.out zz.2)
  generalize zz.1 = w3 at *
  obtain ⟨⟨e0, e1, e2, c0, c1, c2, c3, c4⟩, ⟨px0, px1, px2, px3, px4⟩, ⟨py0, py1, py2, py3, py4⟩⟩ := HG.out _ HW3.out
  have hr := (HW3.out.block _ (lt_of_block HR.out)).trans HR.out
  have r0 := row_cell (j := 0) hr rfl
  have s0 := row_frz (j := 0) hr
  have r1 := row_cell (j := 1) hr rfl
  have s1 := row_frz (j := 1) hr
  clear hr
  go_wp2_with (fail)
  all_goals refine bodyPost_ret (v := .tuple #[.agg #[.string va, .string vb], .int .i64 0]) (results_cell_tmp rfl _ _ (w.heap.size + 1 + 1) 125 _ (0, 0) _ (.int .i64 0) rfl rfl (sc2_row ((HW3.out.block _ (lt_of_block HR.out)).trans HR.out)) Tryz.underlying125 (by kernel_rfl) (by kernel_rfl)) rfl ?_
  all_goals exact ⟨rfl, ((btO HB.out HW3.out).setCell (p := ⟨w.heap.size + 1 + 1, 0, none⟩) (by show _ ≤ w.heap.size + 1 + 1; omega) _).setCell (p := ⟨w.heap.size + 1 + 1, 1, none⟩) (by show _ ≤ w.heap.size + 1 + 1; omega) _⟩
set_option maxRecDepth 100000 in
set_option maxHeartbeats 6400000 in
theorem pcho_e (ba : Bool) (ea : Int) (rr nn : ByteArray) (dd : Int) (A : Option Addr) (c : Nat) (x y z : Ex) (E : Ev) (day : Int) (w : World) (hin : Ex.In w (.mk 9 rr nn dd A c [x, y, z])) (hE : E.Inv w) (hx : ∀ W, x.In W → E.Inv W → Calls Tryz.prog 52 #[evV day E, x.val] W (fun e w' => e = .returned (.tuple #[.bool ba, .int .i64 ea]) ∧ Below W.heap.size W w')) (hea : (ea != 0) = true) :
    Calls Tryz.prog 89 #[evV day E, Ex.val (.mk 9 rr nn dd A c [x, y, z])] w (StE ⟨#[]⟩ ea w) := by
  obtain ⟨b, o, rfl, ix, qx, iy, qy, iz, qz⟩ := hin.ptc3
  obtain ⟨fA, fs, fc, cA, cs, cc⟩ := E
  obtain ⟨w1, hw1, hB, hS⟩ := pv_begin w day 9 rr nn dd (some ⟨b, o, none⟩) 3 c fA fs.length fc cA cs.length cc
  have HB := Lib.hid hB
  have HG := Lib.hid (fun W (hW : Below w1.heap.size w1 W) => And.intro (hS.below hW) (And.intro (qx.below (btO hB hW)) (And.intro (qy.below (btO hB hW)) (qz.below (btO hB hW)))))
  have Hx := Lib.hid (fun W (hW : Below w1.heap.size w1 W) => hx W (ix.below (btO hB hW)) (hE.below (btO hB hW)))
  have HW1 := Lib.hid (Below.refl w1.heap.size w1)
  show Calls Tryz.prog 89 #[.agg #[.int .i64 day, .slice fA fs.length fc, .slice cA cs.length cc], .agg #[.int .u8 9, .string rr, .string nn, .int .i64 dd, .slice (some ⟨b, o, none⟩) 3 c]] w _
  clear hin hE hB hS hx ix iy iz qx qy qz
  obtain ⟨⟨e0, e1, e2, c0, c1, c2, c3, c4⟩, ⟨px0, px1, px2, px3, px4⟩, ⟨py0, py1, py2, py3, py4⟩, ⟨pz0, pz1, pz2, pz3, pz4⟩⟩ := HG.out _ HW1.out
  go_enter Tryz.func89, Tryz.ntmps89
  go_wp2_with (fail)
  obtain ⟨gS, gx, gy, gz⟩ := HG.out _ HW1.out
  obtain ⟨ze0, ze1, ze2, zc0, zc1, zc2, zc3, zc4⟩ := gS.zs
  obtain ⟨zpx0, zpx1, zpx2, zpx3, zpx4⟩ := gx.zs
  obtain ⟨zpy0, zpy1, zpy2, zpy3, zpy4⟩ := gy.zs
  obtain ⟨zpz0, zpz1, zpz2, zpz3, zpz4⟩ := gz.zs
  clear e0 e1 e2 c0 c1 c2 c3 c4 px0 px1 px2 px3 px4 py0 py1 py2 py3 py4 pz0 pz1 pz2 pz3 pz4 gS gx gy gz
  clear hw1
  refine wp_region_bel (by kernel_rfl) (by kernel_rfl) ?_
  repeat (go_big_quiet_step (first
    | (go_at_call 52; with_reducible exact Bel.calls (fun W hW => Hx.out W (btO HW1.out hW)) _)))
  refine wpQuiet_nil ?_
  rintro _ ⟨zz, rfl⟩
  clear ze0 ze1 ze2 zc0 zc1 zc2 zc3 zc4 zpx0 zpx1 zpx2 zpx3 zpx4 zpy0 zpy1 zpy2 zpy3 zpy4 zpz0 zpz1 zpz2 zpz3 zpz4
  have HW2 := Lib.hid (btO HW1.out zz.2)
  generalize zz.1 = w2 at *
  obtain ⟨⟨e0, e1, e2, c0, c1, c2, c3, c4⟩, ⟨px0, px1, px2, px3, px4⟩, ⟨py0, py1, py2, py3, py4⟩, ⟨pz0, pz1, pz2, pz3, pz4⟩⟩ := HG.out _ HW2.out
  go_wp2_with (fail)
  all_goals go_ret2
  all_goals exact ⟨rfl, btO HB.out HW2.out⟩
set_option maxRecDepth 100000 in
set_option maxHeartbeats 6400000 in
theorem pcho_t (va : ByteArray) (ea : Int) (rr nn : ByteArray) (dd : Int) (A : Option Addr) (c : Nat) (x y z : Ex) (E : Ev) (day : Int) (w : World) (hin : Ex.In w (.mk 9 rr nn dd A c [x, y, z])) (hE : E.Inv w) (hx : ∀ W, x.In W → E.Inv W → Calls Tryz.prog 52 #[evV day E, x.val] W (fun e w' => e = .returned (.tuple #[.bool true, .int .i64 0]) ∧ Below W.heap.size W w')) (hy : ∀ W, y.In W → E.Inv W → Calls Tryz.prog 51 #[evV day E, y.val] W (fun e w' => e = .returned (.tuple #[.string va, .int .i64 ea]) ∧ Below W.heap.size W w')) :
    Calls Tryz.prog 89 #[evV day E, Ex.val (.mk 9 rr nn dd A c [x, y, z])] w (StE va ea w) := by
  obtain ⟨b, o, rfl, ix, qx, iy, qy, iz, qz⟩ := hin.ptc3
  obtain ⟨fA, fs, fc, cA, cs, cc⟩ := E
  obtain ⟨w1, hw1, hB, hS⟩ := pv_begin w day 9 rr nn dd (some ⟨b, o, none⟩) 3 c fA fs.length fc cA cs.length cc
  have HB := Lib.hid hB
  have HG := Lib.hid (fun W (hW : Below w1.heap.size w1 W) => And.intro (hS.below hW) (And.intro (qx.below (btO hB hW)) (And.intro (qy.below (btO hB hW)) (qz.below (btO hB hW)))))
  have Hx := Lib.hid (fun W (hW : Below w1.heap.size w1 W) => hx W (ix.below (btO hB hW)) (hE.below (btO hB hW)))
  have Hy := Lib.hid (fun W (hW : Below w1.heap.size w1 W) => hy W (iy.below (btO hB hW)) (hE.below (btO hB hW)))
  have HW1 := Lib.hid (Below.refl w1.heap.size w1)
  show Calls Tryz.prog 89 #[.agg #[.int .i64 day, .slice fA fs.length fc, .slice cA cs.length cc], .agg #[.int .u8 9, .string rr, .string nn, .int .i64 dd, .slice (some ⟨b, o, none⟩) 3 c]] w _
  clear hin hE hB hS hx hy ix iy iz qx qy qz
  obtain ⟨⟨e0, e1, e2, c0, c1, c2, c3, c4⟩, ⟨px0, px1, px2, px3, px4⟩, ⟨py0, py1, py2, py3, py4⟩, ⟨pz0, pz1, pz2, pz3, pz4⟩⟩ := HG.out _ HW1.out
  go_enter Tryz.func89, Tryz.ntmps89
  go_wp2_with (fail)
  obtain ⟨gS, gx, gy, gz⟩ := HG.out _ HW1.out
  obtain ⟨ze0, ze1, ze2, zc0, zc1, zc2, zc3, zc4⟩ := gS.zs
  obtain ⟨zpx0, zpx1, zpx2, zpx3, zpx4⟩ := gx.zs
  obtain ⟨zpy0, zpy1, zpy2, zpy3, zpy4⟩ := gy.zs
  obtain ⟨zpz0, zpz1, zpz2, zpz3, zpz4⟩ := gz.zs
  clear e0 e1 e2 c0 c1 c2 c3 c4 px0 px1 px2 px3 px4 py0 py1 py2 py3 py4 pz0 pz1 pz2 pz3 pz4 gS gx gy gz
  clear hw1
  refine wp_region_bel (by kernel_rfl) (by kernel_rfl) ?_
  repeat (go_big_quiet_step (first
    | (go_at_call 52; with_reducible exact Bel.calls (fun W hW => Hx.out W (btO HW1.out hW)) _)))
  refine wpQuiet_nil ?_
  rintro _ ⟨zz, rfl⟩
  clear ze0 ze1 ze2 zc0 zc1 zc2 zc3 zc4 zpx0 zpx1 zpx2 zpx3 zpx4 zpy0 zpy1 zpy2 zpy3 zpy4 zpz0 zpz1 zpz2 zpz3 zpz4
  have HW2 := Lib.hid (btO HW1.out zz.2)
  generalize zz.1 = w2 at *
  obtain ⟨⟨e0, e1, e2, c0, c1, c2, c3, c4⟩, ⟨px0, px1, px2, px3, px4⟩, ⟨py0, py1, py2, py3, py4⟩, ⟨pz0, pz1, pz2, pz3, pz4⟩⟩ := HG.out _ HW2.out
  go_wp2_with (fail)
  obtain ⟨gS, gx, gy, gz⟩ := HG.out _ HW2.out
  obtain ⟨ze0, ze1, ze2, zc0, zc1, zc2, zc3, zc4⟩ := gS.zs
  obtain ⟨zpx0, zpx1, zpx2, zpx3, zpx4⟩ := gx.zs
  obtain ⟨zpy0, zpy1, zpy2, zpy3, zpy4⟩ := gy.zs
  obtain ⟨zpz0, zpz1, zpz2, zpz3, zpz4⟩ := gz.zs
  clear e0 e1 e2 c0 c1 c2 c3 c4 px0 px1 px2 px3 px4 py0 py1 py2 py3 py4 pz0 pz1 pz2 pz3 pz4 gS gx gy gz
  refine wp_region_bel (by kernel_rfl) (by kernel_rfl) ?_
  repeat (go_big_quiet_step (first
    | (go_at_call 51; with_reducible exact Bel.calls (fun W hW => Hy.out W (btO HW2.out hW)) _)))
  refine wpQuiet_nil ?_
  rintro _ ⟨zz, rfl⟩
  clear ze0 ze1 ze2 zc0 zc1 zc2 zc3 zc4 zpx0 zpx1 zpx2 zpx3 zpx4 zpy0 zpy1 zpy2 zpy3 zpy4 zpz0 zpz1 zpz2 zpz3 zpz4
  have HW3 := Lib.hid (btO HW2.out zz.2)
  generalize zz.1 = w3 at *
  obtain ⟨⟨e0, e1, e2, c0, c1, c2, c3, c4⟩, ⟨px0, px1, px2, px3, px4⟩, ⟨py0, py1, py2, py3, py4⟩, ⟨pz0, pz1, pz2, pz3, pz4⟩⟩ := HG.out _ HW3.out
  go_wp2_with (fail)
  all_goals go_ret2
  all_goals exact ⟨rfl, btO HB.out HW3.out⟩
set_option maxRecDepth 100000 in
set_option maxHeartbeats 6400000 in
theorem pcho_f (va : ByteArray) (ea : Int) (rr nn : ByteArray) (dd : Int) (A : Option Addr) (c : Nat) (x y z : Ex) (E : Ev) (day : Int) (w : World) (hin : Ex.In w (.mk 9 rr nn dd A c [x, y, z])) (hE : E.Inv w) (hx : ∀ W, x.In W → E.Inv W → Calls Tryz.prog 52 #[evV day E, x.val] W (fun e w' => e = .returned (.tuple #[.bool false, .int .i64 0]) ∧ Below W.heap.size W w')) (hz : ∀ W, z.In W → E.Inv W → Calls Tryz.prog 51 #[evV day E, z.val] W (fun e w' => e = .returned (.tuple #[.string va, .int .i64 ea]) ∧ Below W.heap.size W w')) :
    Calls Tryz.prog 89 #[evV day E, Ex.val (.mk 9 rr nn dd A c [x, y, z])] w (StE va ea w) := by
  obtain ⟨b, o, rfl, ix, qx, iy, qy, iz, qz⟩ := hin.ptc3
  obtain ⟨fA, fs, fc, cA, cs, cc⟩ := E
  obtain ⟨w1, hw1, hB, hS⟩ := pv_begin w day 9 rr nn dd (some ⟨b, o, none⟩) 3 c fA fs.length fc cA cs.length cc
  have HB := Lib.hid hB
  have HG := Lib.hid (fun W (hW : Below w1.heap.size w1 W) => And.intro (hS.below hW) (And.intro (qx.below (btO hB hW)) (And.intro (qy.below (btO hB hW)) (qz.below (btO hB hW)))))
  have Hx := Lib.hid (fun W (hW : Below w1.heap.size w1 W) => hx W (ix.below (btO hB hW)) (hE.below (btO hB hW)))
  have Hz := Lib.hid (fun W (hW : Below w1.heap.size w1 W) => hz W (iz.below (btO hB hW)) (hE.below (btO hB hW)))
  have HW1 := Lib.hid (Below.refl w1.heap.size w1)
  show Calls Tryz.prog 89 #[.agg #[.int .i64 day, .slice fA fs.length fc, .slice cA cs.length cc], .agg #[.int .u8 9, .string rr, .string nn, .int .i64 dd, .slice (some ⟨b, o, none⟩) 3 c]] w _
  clear hin hE hB hS hx hz ix iy iz qx qy qz
  obtain ⟨⟨e0, e1, e2, c0, c1, c2, c3, c4⟩, ⟨px0, px1, px2, px3, px4⟩, ⟨py0, py1, py2, py3, py4⟩, ⟨pz0, pz1, pz2, pz3, pz4⟩⟩ := HG.out _ HW1.out
  go_enter Tryz.func89, Tryz.ntmps89
  go_wp2_with (fail)
  obtain ⟨gS, gx, gy, gz⟩ := HG.out _ HW1.out
  obtain ⟨ze0, ze1, ze2, zc0, zc1, zc2, zc3, zc4⟩ := gS.zs
  obtain ⟨zpx0, zpx1, zpx2, zpx3, zpx4⟩ := gx.zs
  obtain ⟨zpy0, zpy1, zpy2, zpy3, zpy4⟩ := gy.zs
  obtain ⟨zpz0, zpz1, zpz2, zpz3, zpz4⟩ := gz.zs
  clear e0 e1 e2 c0 c1 c2 c3 c4 px0 px1 px2 px3 px4 py0 py1 py2 py3 py4 pz0 pz1 pz2 pz3 pz4 gS gx gy gz
  clear hw1
  refine wp_region_bel (by kernel_rfl) (by kernel_rfl) ?_
  repeat (go_big_quiet_step (first
    | (go_at_call 52; with_reducible exact Bel.calls (fun W hW => Hx.out W (btO HW1.out hW)) _)))
  refine wpQuiet_nil ?_
  rintro _ ⟨zz, rfl⟩
  clear ze0 ze1 ze2 zc0 zc1 zc2 zc3 zc4 zpx0 zpx1 zpx2 zpx3 zpx4 zpy0 zpy1 zpy2 zpy3 zpy4 zpz0 zpz1 zpz2 zpz3 zpz4
  have HW2 := Lib.hid (btO HW1.out zz.2)
  generalize zz.1 = w2 at *
  obtain ⟨⟨e0, e1, e2, c0, c1, c2, c3, c4⟩, ⟨px0, px1, px2, px3, px4⟩, ⟨py0, py1, py2, py3, py4⟩, ⟨pz0, pz1, pz2, pz3, pz4⟩⟩ := HG.out _ HW2.out
  go_wp2_with (fail)
  obtain ⟨gS, gx, gy, gz⟩ := HG.out _ HW2.out
  obtain ⟨ze0, ze1, ze2, zc0, zc1, zc2, zc3, zc4⟩ := gS.zs
  obtain ⟨zpx0, zpx1, zpx2, zpx3, zpx4⟩ := gx.zs
  obtain ⟨zpy0, zpy1, zpy2, zpy3, zpy4⟩ := gy.zs
  obtain ⟨zpz0, zpz1, zpz2, zpz3, zpz4⟩ := gz.zs
  clear e0 e1 e2 c0 c1 c2 c3 c4 px0 px1 px2 px3 px4 py0 py1 py2 py3 py4 pz0 pz1 pz2 pz3 pz4 gS gx gy gz
  refine wp_region_bel (by kernel_rfl) (by kernel_rfl) ?_
  repeat (go_big_quiet_step (first
    | (go_at_call 51; with_reducible exact Bel.calls (fun W hW => Hz.out W (btO HW2.out hW)) _)))
  refine wpQuiet_nil ?_
  rintro _ ⟨zz, rfl⟩
  clear ze0 ze1 ze2 zc0 zc1 zc2 zc3 zc4 zpx0 zpx1 zpx2 zpx3 zpx4 zpy0 zpy1 zpy2 zpy3 zpy4 zpz0 zpz1 zpz2 zpz3 zpz4
  have HW3 := Lib.hid (btO HW2.out zz.2)
  generalize zz.1 = w3 at *
  obtain ⟨⟨e0, e1, e2, c0, c1, c2, c3, c4⟩, ⟨px0, px1, px2, px3, px4⟩, ⟨py0, py1, py2, py3, py4⟩, ⟨pz0, pz1, pz2, pz3, pz4⟩⟩ := HG.out _ HW3.out
  go_wp2_with (fail)
  all_goals go_ret2
  all_goals exact ⟨rfl, btO HB.out HW3.out⟩
set_option maxRecDepth 100000 in
set_option maxHeartbeats 6400000 in
theorem pboth_e (ea : Int) (rr nn : ByteArray) (dd : Int) (A : Option Addr) (c : Nat) (x y : Ex) (E : Ev) (day : Int) (w : World) (hin : Ex.In w (.mk 13 rr nn dd A c [x, y])) (hE : E.Inv w) (hx : ∀ W, x.In W → E.Inv W → Calls Tryz.prog 52 #[evV day E, x.val] W (fun e w' => e = .returned (.tuple #[.bool false, .int .i64 ea]) ∧ Below W.heap.size W w')) (hea : (ea != 0) = true) :
    Calls Tryz.prog 92 #[evV day E, Ex.val (.mk 13 rr nn dd A c [x, y])] w (TrE false ea w) := by
  obtain ⟨b, o, rfl, ix, qx, iy, qy⟩ := hin.ptc2
  obtain ⟨fA, fs, fc, cA, cs, cc⟩ := E
  obtain ⟨w1, hw1, hB, hS⟩ := pv_begin w day 13 rr nn dd (some ⟨b, o, none⟩) 2 c fA fs.length fc cA cs.length cc
  have HB := Lib.hid hB
  have HG := Lib.hid (fun W (hW : Below w1.heap.size w1 W) => And.intro (hS.below hW) (And.intro (qx.below (btO hB hW)) (qy.below (btO hB hW))))
  have Hx := Lib.hid (fun W (hW : Below w1.heap.size w1 W) => hx W (ix.below (btO hB hW)) (hE.below (btO hB hW)))
  have HW1 := Lib.hid (Below.refl w1.heap.size w1)
  show Calls Tryz.prog 92 #[.agg #[.int .i64 day, .slice fA fs.length fc, .slice cA cs.length cc], .agg #[.int .u8 13, .string rr, .string nn, .int .i64 dd, .slice (some ⟨b, o, none⟩) 2 c]] w _
  clear hin hE hB hS hx ix iy qx qy
  obtain ⟨⟨e0, e1, e2, c0, c1, c2, c3, c4⟩, ⟨px0, px1, px2, px3, px4⟩, ⟨py0, py1, py2, py3, py4⟩⟩ := HG.out _ HW1.out
  go_enter Tryz.func92, Tryz.ntmps92
  go_wp2_with (fail)
  obtain ⟨gS, gx, gy⟩ := HG.out _ HW1.out
  obtain ⟨ze0, ze1, ze2, zc0, zc1, zc2, zc3, zc4⟩ := gS.zs
  obtain ⟨zpx0, zpx1, zpx2, zpx3, zpx4⟩ := gx.zs
  obtain ⟨zpy0, zpy1, zpy2, zpy3, zpy4⟩ := gy.zs
  clear e0 e1 e2 c0 c1 c2 c3 c4 px0 px1 px2 px3 px4 py0 py1 py2 py3 py4 gS gx gy
  clear hw1
  refine wp_region_bel (by kernel_rfl) (by kernel_rfl) ?_
  repeat (go_big_quiet_step (first
    | (go_at_call 52; with_reducible exact Bel.calls (fun W hW => Hx.out W (btO HW1.out hW)) _)))
  refine wpQuiet_nil ?_
  rintro _ ⟨zz, rfl⟩
  clear ze0 ze1 ze2 zc0 zc1 zc2 zc3 zc4 zpx0 zpx1 zpx2 zpx3 zpx4 zpy0 zpy1 zpy2 zpy3 zpy4
  have HW2 := Lib.hid (btO HW1.out zz.2)
  generalize zz.1 = w2 at *
  obtain ⟨⟨e0, e1, e2, c0, c1, c2, c3, c4⟩, ⟨px0, px1, px2, px3, px4⟩, ⟨py0, py1, py2, py3, py4⟩⟩ := HG.out _ HW2.out
  go_wp2_with (fail)
  all_goals go_ret2
  all_goals exact ⟨rfl, btO HB.out HW2.out⟩
set_option maxRecDepth 100000 in
set_option maxHeartbeats 6400000 in
theorem pboth_s (rr nn : ByteArray) (dd : Int) (A : Option Addr) (c : Nat) (x y : Ex) (E : Ev) (day : Int) (w : World) (hin : Ex.In w (.mk 13 rr nn dd A c [x, y])) (hE : E.Inv w) (hx : ∀ W, x.In W → E.Inv W → Calls Tryz.prog 52 #[evV day E, x.val] W (fun e w' => e = .returned (.tuple #[.bool false, .int .i64 0]) ∧ Below W.heap.size W w')) :
    Calls Tryz.prog 92 #[evV day E, Ex.val (.mk 13 rr nn dd A c [x, y])] w (TrE false 0 w) := by
  obtain ⟨b, o, rfl, ix, qx, iy, qy⟩ := hin.ptc2
  obtain ⟨fA, fs, fc, cA, cs, cc⟩ := E
  obtain ⟨w1, hw1, hB, hS⟩ := pv_begin w day 13 rr nn dd (some ⟨b, o, none⟩) 2 c fA fs.length fc cA cs.length cc
  have HB := Lib.hid hB
  have HG := Lib.hid (fun W (hW : Below w1.heap.size w1 W) => And.intro (hS.below hW) (And.intro (qx.below (btO hB hW)) (qy.below (btO hB hW))))
  have Hx := Lib.hid (fun W (hW : Below w1.heap.size w1 W) => hx W (ix.below (btO hB hW)) (hE.below (btO hB hW)))
  have HW1 := Lib.hid (Below.refl w1.heap.size w1)
  show Calls Tryz.prog 92 #[.agg #[.int .i64 day, .slice fA fs.length fc, .slice cA cs.length cc], .agg #[.int .u8 13, .string rr, .string nn, .int .i64 dd, .slice (some ⟨b, o, none⟩) 2 c]] w _
  clear hin hE hB hS hx ix iy qx qy
  obtain ⟨⟨e0, e1, e2, c0, c1, c2, c3, c4⟩, ⟨px0, px1, px2, px3, px4⟩, ⟨py0, py1, py2, py3, py4⟩⟩ := HG.out _ HW1.out
  go_enter Tryz.func92, Tryz.ntmps92
  go_wp2_with (fail)
  obtain ⟨gS, gx, gy⟩ := HG.out _ HW1.out
  obtain ⟨ze0, ze1, ze2, zc0, zc1, zc2, zc3, zc4⟩ := gS.zs
  obtain ⟨zpx0, zpx1, zpx2, zpx3, zpx4⟩ := gx.zs
  obtain ⟨zpy0, zpy1, zpy2, zpy3, zpy4⟩ := gy.zs
  clear e0 e1 e2 c0 c1 c2 c3 c4 px0 px1 px2 px3 px4 py0 py1 py2 py3 py4 gS gx gy
  clear hw1
  refine wp_region_bel (by kernel_rfl) (by kernel_rfl) ?_
  repeat (go_big_quiet_step (first
    | (go_at_call 52; with_reducible exact Bel.calls (fun W hW => Hx.out W (btO HW1.out hW)) _)))
  refine wpQuiet_nil ?_
  rintro _ ⟨zz, rfl⟩
  clear ze0 ze1 ze2 zc0 zc1 zc2 zc3 zc4 zpx0 zpx1 zpx2 zpx3 zpx4 zpy0 zpy1 zpy2 zpy3 zpy4
  have HW2 := Lib.hid (btO HW1.out zz.2)
  generalize zz.1 = w2 at *
  obtain ⟨⟨e0, e1, e2, c0, c1, c2, c3, c4⟩, ⟨px0, px1, px2, px3, px4⟩, ⟨py0, py1, py2, py3, py4⟩⟩ := HG.out _ HW2.out
  go_wp2_with (fail)
  all_goals go_ret2
  all_goals exact ⟨rfl, btO HB.out HW2.out⟩
set_option maxRecDepth 100000 in
set_option maxHeartbeats 6400000 in
theorem pboth_l (bb : Bool) (ea : Int) (rr nn : ByteArray) (dd : Int) (A : Option Addr) (c : Nat) (x y : Ex) (E : Ev) (day : Int) (w : World) (hin : Ex.In w (.mk 13 rr nn dd A c [x, y])) (hE : E.Inv w) (hx : ∀ W, x.In W → E.Inv W → Calls Tryz.prog 52 #[evV day E, x.val] W (fun e w' => e = .returned (.tuple #[.bool true, .int .i64 0]) ∧ Below W.heap.size W w')) (hy : ∀ W, y.In W → E.Inv W → Calls Tryz.prog 52 #[evV day E, y.val] W (fun e w' => e = .returned (.tuple #[.bool bb, .int .i64 ea]) ∧ Below W.heap.size W w')) :
    Calls Tryz.prog 92 #[evV day E, Ex.val (.mk 13 rr nn dd A c [x, y])] w (TrE bb ea w) := by
  obtain ⟨b, o, rfl, ix, qx, iy, qy⟩ := hin.ptc2
  obtain ⟨fA, fs, fc, cA, cs, cc⟩ := E
  obtain ⟨w1, hw1, hB, hS⟩ := pv_begin w day 13 rr nn dd (some ⟨b, o, none⟩) 2 c fA fs.length fc cA cs.length cc
  have HB := Lib.hid hB
  have HG := Lib.hid (fun W (hW : Below w1.heap.size w1 W) => And.intro (hS.below hW) (And.intro (qx.below (btO hB hW)) (qy.below (btO hB hW))))
  have Hx := Lib.hid (fun W (hW : Below w1.heap.size w1 W) => hx W (ix.below (btO hB hW)) (hE.below (btO hB hW)))
  have Hy := Lib.hid (fun W (hW : Below w1.heap.size w1 W) => hy W (iy.below (btO hB hW)) (hE.below (btO hB hW)))
  have HW1 := Lib.hid (Below.refl w1.heap.size w1)
  show Calls Tryz.prog 92 #[.agg #[.int .i64 day, .slice fA fs.length fc, .slice cA cs.length cc], .agg #[.int .u8 13, .string rr, .string nn, .int .i64 dd, .slice (some ⟨b, o, none⟩) 2 c]] w _
  clear hin hE hB hS hx hy ix iy qx qy
  obtain ⟨⟨e0, e1, e2, c0, c1, c2, c3, c4⟩, ⟨px0, px1, px2, px3, px4⟩, ⟨py0, py1, py2, py3, py4⟩⟩ := HG.out _ HW1.out
  go_enter Tryz.func92, Tryz.ntmps92
  go_wp2_with (fail)
  obtain ⟨gS, gx, gy⟩ := HG.out _ HW1.out
  obtain ⟨ze0, ze1, ze2, zc0, zc1, zc2, zc3, zc4⟩ := gS.zs
  obtain ⟨zpx0, zpx1, zpx2, zpx3, zpx4⟩ := gx.zs
  obtain ⟨zpy0, zpy1, zpy2, zpy3, zpy4⟩ := gy.zs
  clear e0 e1 e2 c0 c1 c2 c3 c4 px0 px1 px2 px3 px4 py0 py1 py2 py3 py4 gS gx gy
  clear hw1
  refine wp_region_bel (by kernel_rfl) (by kernel_rfl) ?_
  repeat (go_big_quiet_step (first
    | (go_at_call 52; with_reducible exact Bel.calls (fun W hW => Hx.out W (btO HW1.out hW)) _)))
  refine wpQuiet_nil ?_
  rintro _ ⟨zz, rfl⟩
  clear ze0 ze1 ze2 zc0 zc1 zc2 zc3 zc4 zpx0 zpx1 zpx2 zpx3 zpx4 zpy0 zpy1 zpy2 zpy3 zpy4
  have HW2 := Lib.hid (btO HW1.out zz.2)
  generalize zz.1 = w2 at *
  obtain ⟨⟨e0, e1, e2, c0, c1, c2, c3, c4⟩, ⟨px0, px1, px2, px3, px4⟩, ⟨py0, py1, py2, py3, py4⟩⟩ := HG.out _ HW2.out
  go_wp2_with (fail)
  obtain ⟨gS, gx, gy⟩ := HG.out _ HW2.out
  obtain ⟨ze0, ze1, ze2, zc0, zc1, zc2, zc3, zc4⟩ := gS.zs
  obtain ⟨zpx0, zpx1, zpx2, zpx3, zpx4⟩ := gx.zs
  obtain ⟨zpy0, zpy1, zpy2, zpy3, zpy4⟩ := gy.zs
  clear e0 e1 e2 c0 c1 c2 c3 c4 px0 px1 px2 px3 px4 py0 py1 py2 py3 py4 gS gx gy
  refine wp_region_bel (by kernel_rfl) (by kernel_rfl) ?_
  repeat (go_big_quiet_step (first
    | (go_at_call 52; with_reducible exact Bel.calls (fun W hW => Hy.out W (btO HW2.out hW)) _)))
  refine wpQuiet_nil ?_
  rintro _ ⟨zz, rfl⟩
  clear ze0 ze1 ze2 zc0 zc1 zc2 zc3 zc4 zpx0 zpx1 zpx2 zpx3 zpx4 zpy0 zpy1 zpy2 zpy3 zpy4
  have HW3 := Lib.hid (btO HW2.out zz.2)
  generalize zz.1 = w3 at *
  obtain ⟨⟨e0, e1, e2, c0, c1, c2, c3, c4⟩, ⟨px0, px1, px2, px3, px4⟩, ⟨py0, py1, py2, py3, py4⟩⟩ := HG.out _ HW3.out
  go_wp2_with (fail)
  all_goals go_ret2
  all_goals exact ⟨rfl, btO HB.out HW3.out⟩
set_option maxRecDepth 100000 in
set_option maxHeartbeats 6400000 in
theorem peith_e (ea : Int) (rr nn : ByteArray) (dd : Int) (A : Option Addr) (c : Nat) (x y : Ex) (E : Ev) (day : Int) (w : World) (hin : Ex.In w (.mk 14 rr nn dd A c [x, y])) (hE : E.Inv w) (hx : ∀ W, x.In W → E.Inv W → Calls Tryz.prog 52 #[evV day E, x.val] W (fun e w' => e = .returned (.tuple #[.bool false, .int .i64 ea]) ∧ Below W.heap.size W w')) (hea : (ea != 0) = true) :
    Calls Tryz.prog 93 #[evV day E, Ex.val (.mk 14 rr nn dd A c [x, y])] w (TrE false ea w) := by
  obtain ⟨b, o, rfl, ix, qx, iy, qy⟩ := hin.ptc2
  obtain ⟨fA, fs, fc, cA, cs, cc⟩ := E
  obtain ⟨w1, hw1, hB, hS⟩ := pv_begin w day 14 rr nn dd (some ⟨b, o, none⟩) 2 c fA fs.length fc cA cs.length cc
  have HB := Lib.hid hB
  have HG := Lib.hid (fun W (hW : Below w1.heap.size w1 W) => And.intro (hS.below hW) (And.intro (qx.below (btO hB hW)) (qy.below (btO hB hW))))
  have Hx := Lib.hid (fun W (hW : Below w1.heap.size w1 W) => hx W (ix.below (btO hB hW)) (hE.below (btO hB hW)))
  have HW1 := Lib.hid (Below.refl w1.heap.size w1)
  show Calls Tryz.prog 93 #[.agg #[.int .i64 day, .slice fA fs.length fc, .slice cA cs.length cc], .agg #[.int .u8 14, .string rr, .string nn, .int .i64 dd, .slice (some ⟨b, o, none⟩) 2 c]] w _
  clear hin hE hB hS hx ix iy qx qy
  obtain ⟨⟨e0, e1, e2, c0, c1, c2, c3, c4⟩, ⟨px0, px1, px2, px3, px4⟩, ⟨py0, py1, py2, py3, py4⟩⟩ := HG.out _ HW1.out
  go_enter Tryz.func93, Tryz.ntmps93
  go_wp2_with (fail)
  obtain ⟨gS, gx, gy⟩ := HG.out _ HW1.out
  obtain ⟨ze0, ze1, ze2, zc0, zc1, zc2, zc3, zc4⟩ := gS.zs
  obtain ⟨zpx0, zpx1, zpx2, zpx3, zpx4⟩ := gx.zs
  obtain ⟨zpy0, zpy1, zpy2, zpy3, zpy4⟩ := gy.zs
  clear e0 e1 e2 c0 c1 c2 c3 c4 px0 px1 px2 px3 px4 py0 py1 py2 py3 py4 gS gx gy
  clear hw1
  refine wp_region_bel (by kernel_rfl) (by kernel_rfl) ?_
  repeat (go_big_quiet_step (first
    | (go_at_call 52; with_reducible exact Bel.calls (fun W hW => Hx.out W (btO HW1.out hW)) _)))
  refine wpQuiet_nil ?_
  rintro _ ⟨zz, rfl⟩
  clear ze0 ze1 ze2 zc0 zc1 zc2 zc3 zc4 zpx0 zpx1 zpx2 zpx3 zpx4 zpy0 zpy1 zpy2 zpy3 zpy4
  have HW2 := Lib.hid (btO HW1.out zz.2)
  generalize zz.1 = w2 at *
  obtain ⟨⟨e0, e1, e2, c0, c1, c2, c3, c4⟩, ⟨px0, px1, px2, px3, px4⟩, ⟨py0, py1, py2, py3, py4⟩⟩ := HG.out _ HW2.out
  go_wp2_with (fail)
  all_goals go_ret2
  all_goals exact ⟨rfl, btO HB.out HW2.out⟩
set_option maxRecDepth 100000 in
set_option maxHeartbeats 6400000 in
theorem peith_s (rr nn : ByteArray) (dd : Int) (A : Option Addr) (c : Nat) (x y : Ex) (E : Ev) (day : Int) (w : World) (hin : Ex.In w (.mk 14 rr nn dd A c [x, y])) (hE : E.Inv w) (hx : ∀ W, x.In W → E.Inv W → Calls Tryz.prog 52 #[evV day E, x.val] W (fun e w' => e = .returned (.tuple #[.bool true, .int .i64 0]) ∧ Below W.heap.size W w')) :
    Calls Tryz.prog 93 #[evV day E, Ex.val (.mk 14 rr nn dd A c [x, y])] w (TrE true 0 w) := by
  obtain ⟨b, o, rfl, ix, qx, iy, qy⟩ := hin.ptc2
  obtain ⟨fA, fs, fc, cA, cs, cc⟩ := E
  obtain ⟨w1, hw1, hB, hS⟩ := pv_begin w day 14 rr nn dd (some ⟨b, o, none⟩) 2 c fA fs.length fc cA cs.length cc
  have HB := Lib.hid hB
  have HG := Lib.hid (fun W (hW : Below w1.heap.size w1 W) => And.intro (hS.below hW) (And.intro (qx.below (btO hB hW)) (qy.below (btO hB hW))))
  have Hx := Lib.hid (fun W (hW : Below w1.heap.size w1 W) => hx W (ix.below (btO hB hW)) (hE.below (btO hB hW)))
  have HW1 := Lib.hid (Below.refl w1.heap.size w1)
  show Calls Tryz.prog 93 #[.agg #[.int .i64 day, .slice fA fs.length fc, .slice cA cs.length cc], .agg #[.int .u8 14, .string rr, .string nn, .int .i64 dd, .slice (some ⟨b, o, none⟩) 2 c]] w _
  clear hin hE hB hS hx ix iy qx qy
  obtain ⟨⟨e0, e1, e2, c0, c1, c2, c3, c4⟩, ⟨px0, px1, px2, px3, px4⟩, ⟨py0, py1, py2, py3, py4⟩⟩ := HG.out _ HW1.out
  go_enter Tryz.func93, Tryz.ntmps93
  go_wp2_with (fail)
  obtain ⟨gS, gx, gy⟩ := HG.out _ HW1.out
  obtain ⟨ze0, ze1, ze2, zc0, zc1, zc2, zc3, zc4⟩ := gS.zs
  obtain ⟨zpx0, zpx1, zpx2, zpx3, zpx4⟩ := gx.zs
  obtain ⟨zpy0, zpy1, zpy2, zpy3, zpy4⟩ := gy.zs
  clear e0 e1 e2 c0 c1 c2 c3 c4 px0 px1 px2 px3 px4 py0 py1 py2 py3 py4 gS gx gy
  clear hw1
  refine wp_region_bel (by kernel_rfl) (by kernel_rfl) ?_
  repeat (go_big_quiet_step (first
    | (go_at_call 52; with_reducible exact Bel.calls (fun W hW => Hx.out W (btO HW1.out hW)) _)))
  refine wpQuiet_nil ?_
  rintro _ ⟨zz, rfl⟩
  clear ze0 ze1 ze2 zc0 zc1 zc2 zc3 zc4 zpx0 zpx1 zpx2 zpx3 zpx4 zpy0 zpy1 zpy2 zpy3 zpy4
  have HW2 := Lib.hid (btO HW1.out zz.2)
  generalize zz.1 = w2 at *
  obtain ⟨⟨e0, e1, e2, c0, c1, c2, c3, c4⟩, ⟨px0, px1, px2, px3, px4⟩, ⟨py0, py1, py2, py3, py4⟩⟩ := HG.out _ HW2.out
  go_wp2_with (fail)
  all_goals go_ret2
  all_goals exact ⟨rfl, btO HB.out HW2.out⟩
set_option maxRecDepth 100000 in
set_option maxHeartbeats 6400000 in
theorem peith_l (bb : Bool) (ea : Int) (rr nn : ByteArray) (dd : Int) (A : Option Addr) (c : Nat) (x y : Ex) (E : Ev) (day : Int) (w : World) (hin : Ex.In w (.mk 14 rr nn dd A c [x, y])) (hE : E.Inv w) (hx : ∀ W, x.In W → E.Inv W → Calls Tryz.prog 52 #[evV day E, x.val] W (fun e w' => e = .returned (.tuple #[.bool false, .int .i64 0]) ∧ Below W.heap.size W w')) (hy : ∀ W, y.In W → E.Inv W → Calls Tryz.prog 52 #[evV day E, y.val] W (fun e w' => e = .returned (.tuple #[.bool bb, .int .i64 ea]) ∧ Below W.heap.size W w')) :
    Calls Tryz.prog 93 #[evV day E, Ex.val (.mk 14 rr nn dd A c [x, y])] w (TrE bb ea w) := by
  obtain ⟨b, o, rfl, ix, qx, iy, qy⟩ := hin.ptc2
  obtain ⟨fA, fs, fc, cA, cs, cc⟩ := E
  obtain ⟨w1, hw1, hB, hS⟩ := pv_begin w day 14 rr nn dd (some ⟨b, o, none⟩) 2 c fA fs.length fc cA cs.length cc
  have HB := Lib.hid hB
  have HG := Lib.hid (fun W (hW : Below w1.heap.size w1 W) => And.intro (hS.below hW) (And.intro (qx.below (btO hB hW)) (qy.below (btO hB hW))))
  have Hx := Lib.hid (fun W (hW : Below w1.heap.size w1 W) => hx W (ix.below (btO hB hW)) (hE.below (btO hB hW)))
  have Hy := Lib.hid (fun W (hW : Below w1.heap.size w1 W) => hy W (iy.below (btO hB hW)) (hE.below (btO hB hW)))
  have HW1 := Lib.hid (Below.refl w1.heap.size w1)
  show Calls Tryz.prog 93 #[.agg #[.int .i64 day, .slice fA fs.length fc, .slice cA cs.length cc], .agg #[.int .u8 14, .string rr, .string nn, .int .i64 dd, .slice (some ⟨b, o, none⟩) 2 c]] w _
  clear hin hE hB hS hx hy ix iy qx qy
  obtain ⟨⟨e0, e1, e2, c0, c1, c2, c3, c4⟩, ⟨px0, px1, px2, px3, px4⟩, ⟨py0, py1, py2, py3, py4⟩⟩ := HG.out _ HW1.out
  go_enter Tryz.func93, Tryz.ntmps93
  go_wp2_with (fail)
  obtain ⟨gS, gx, gy⟩ := HG.out _ HW1.out
  obtain ⟨ze0, ze1, ze2, zc0, zc1, zc2, zc3, zc4⟩ := gS.zs
  obtain ⟨zpx0, zpx1, zpx2, zpx3, zpx4⟩ := gx.zs
  obtain ⟨zpy0, zpy1, zpy2, zpy3, zpy4⟩ := gy.zs
  clear e0 e1 e2 c0 c1 c2 c3 c4 px0 px1 px2 px3 px4 py0 py1 py2 py3 py4 gS gx gy
  clear hw1
  refine wp_region_bel (by kernel_rfl) (by kernel_rfl) ?_
  repeat (go_big_quiet_step (first
    | (go_at_call 52; with_reducible exact Bel.calls (fun W hW => Hx.out W (btO HW1.out hW)) _)))
  refine wpQuiet_nil ?_
  rintro _ ⟨zz, rfl⟩
  clear ze0 ze1 ze2 zc0 zc1 zc2 zc3 zc4 zpx0 zpx1 zpx2 zpx3 zpx4 zpy0 zpy1 zpy2 zpy3 zpy4
  have HW2 := Lib.hid (btO HW1.out zz.2)
  generalize zz.1 = w2 at *
  obtain ⟨⟨e0, e1, e2, c0, c1, c2, c3, c4⟩, ⟨px0, px1, px2, px3, px4⟩, ⟨py0, py1, py2, py3, py4⟩⟩ := HG.out _ HW2.out
  go_wp2_with (fail)
  obtain ⟨gS, gx, gy⟩ := HG.out _ HW2.out
  obtain ⟨ze0, ze1, ze2, zc0, zc1, zc2, zc3, zc4⟩ := gS.zs
  obtain ⟨zpx0, zpx1, zpx2, zpx3, zpx4⟩ := gx.zs
  obtain ⟨zpy0, zpy1, zpy2, zpy3, zpy4⟩ := gy.zs
  clear e0 e1 e2 c0 c1 c2 c3 c4 px0 px1 px2 px3 px4 py0 py1 py2 py3 py4 gS gx gy
  refine wp_region_bel (by kernel_rfl) (by kernel_rfl) ?_
  repeat (go_big_quiet_step (first
    | (go_at_call 52; with_reducible exact Bel.calls (fun W hW => Hy.out W (btO HW2.out hW)) _)))
  refine wpQuiet_nil ?_
  rintro _ ⟨zz, rfl⟩
  clear ze0 ze1 ze2 zc0 zc1 zc2 zc3 zc4 zpx0 zpx1 zpx2 zpx3 zpx4 zpy0 zpy1 zpy2 zpy3 zpy4
  have HW3 := Lib.hid (btO HW2.out zz.2)
  generalize zz.1 = w3 at *
  obtain ⟨⟨e0, e1, e2, c0, c1, c2, c3, c4⟩, ⟨px0, px1, px2, px3, px4⟩, ⟨py0, py1, py2, py3, py4⟩⟩ := HG.out _ HW3.out
  go_wp2_with (fail)
  all_goals go_ret2
  all_goals exact ⟨rfl, btO HB.out HW3.out⟩
set_option maxRecDepth 100000 in
set_option maxHeartbeats 6400000 in
theorem pnot_e (ba : Bool) (ea : Int) (rr nn : ByteArray) (dd : Int) (A : Option Addr) (c : Nat) (x : Ex) (E : Ev) (day : Int) (w : World) (hin : Ex.In w (.mk 15 rr nn dd A c [x])) (hE : E.Inv w) (hx : ∀ W, x.In W → E.Inv W → Calls Tryz.prog 52 #[evV day E, x.val] W (fun e w' => e = .returned (.tuple #[.bool ba, .int .i64 ea]) ∧ Below W.heap.size W w')) (hea : (ea == 0) = false) :
    Calls Tryz.prog 94 #[evV day E, Ex.val (.mk 15 rr nn dd A c [x])] w (TrE false ea w) := by
  obtain ⟨b, o, rfl, ix, qx⟩ := hin.ptc1
  obtain ⟨fA, fs, fc, cA, cs, cc⟩ := E
  obtain ⟨w1, hw1, hB, hS⟩ := pv_begin w day 15 rr nn dd (some ⟨b, o, none⟩) 1 c fA fs.length fc cA cs.length cc
  have HB := Lib.hid hB
  have HG := Lib.hid (fun W (hW : Below w1.heap.size w1 W) => And.intro (hS.below hW) (qx.below (btO hB hW)))
  have Hx := Lib.hid (fun W (hW : Below w1.heap.size w1 W) => hx W (ix.below (btO hB hW)) (hE.below (btO hB hW)))
  have HW1 := Lib.hid (Below.refl w1.heap.size w1)
  show Calls Tryz.prog 94 #[.agg #[.int .i64 day, .slice fA fs.length fc, .slice cA cs.length cc], .agg #[.int .u8 15, .string rr, .string nn, .int .i64 dd, .slice (some ⟨b, o, none⟩) 1 c]] w _
  clear hin hE hB hS hx ix qx
  obtain ⟨⟨e0, e1, e2, c0, c1, c2, c3, c4⟩, ⟨px0, px1, px2, px3, px4⟩⟩ := HG.out _ HW1.out
  go_enter Tryz.func94, Tryz.ntmps94
  go_wp2_with (fail)
  obtain ⟨gS, gx⟩ := HG.out _ HW1.out
  obtain ⟨ze0, ze1, ze2, zc0, zc1, zc2, zc3, zc4⟩ := gS.zs
  obtain ⟨zpx0, zpx1, zpx2, zpx3, zpx4⟩ := gx.zs
  clear e0 e1 e2 c0 c1 c2 c3 c4 px0 px1 px2 px3 px4 gS gx
  clear hw1
  refine wp_region_bel (by kernel_rfl) (by kernel_rfl) ?_
  repeat (go_big_quiet_step (first
    | (go_at_call 52; with_reducible exact Bel.calls (fun W hW => Hx.out W (btO HW1.out hW)) _)))
  refine wpQuiet_nil ?_
  rintro _ ⟨zz, rfl⟩
  clear ze0 ze1 ze2 zc0 zc1 zc2 zc3 zc4 zpx0 zpx1 zpx2 zpx3 zpx4
  have HW2 := Lib.hid (btO HW1.out zz.2)
  generalize zz.1 = w2 at *
  obtain ⟨⟨e0, e1, e2, c0, c1, c2, c3, c4⟩, ⟨px0, px1, px2, px3, px4⟩⟩ := HG.out _ HW2.out
  go_wp2_with (fail)
  all_goals go_ret2
  all_goals exact ⟨rfl, btO HB.out HW2.out⟩
set_option maxRecDepth 100000 in
set_option maxHeartbeats 6400000 in
theorem pnot_o (ba : Bool) (rr nn : ByteArray) (dd : Int) (A : Option Addr) (c : Nat) (x : Ex) (E : Ev) (day : Int) (w : World) (hin : Ex.In w (.mk 15 rr nn dd A c [x])) (hE : E.Inv w) (hx : ∀ W, x.In W → E.Inv W → Calls Tryz.prog 52 #[evV day E, x.val] W (fun e w' => e = .returned (.tuple #[.bool ba, .int .i64 0]) ∧ Below W.heap.size W w')) :
    Calls Tryz.prog 94 #[evV day E, Ex.val (.mk 15 rr nn dd A c [x])] w (TrE (!ba) 0 w) := by
  obtain ⟨b, o, rfl, ix, qx⟩ := hin.ptc1
  obtain ⟨fA, fs, fc, cA, cs, cc⟩ := E
  obtain ⟨w1, hw1, hB, hS⟩ := pv_begin w day 15 rr nn dd (some ⟨b, o, none⟩) 1 c fA fs.length fc cA cs.length cc
  have HB := Lib.hid hB
  have HG := Lib.hid (fun W (hW : Below w1.heap.size w1 W) => And.intro (hS.below hW) (qx.below (btO hB hW)))
  have Hx := Lib.hid (fun W (hW : Below w1.heap.size w1 W) => hx W (ix.below (btO hB hW)) (hE.below (btO hB hW)))
  have HW1 := Lib.hid (Below.refl w1.heap.size w1)
  show Calls Tryz.prog 94 #[.agg #[.int .i64 day, .slice fA fs.length fc, .slice cA cs.length cc], .agg #[.int .u8 15, .string rr, .string nn, .int .i64 dd, .slice (some ⟨b, o, none⟩) 1 c]] w _
  clear hin hE hB hS hx ix qx
  obtain ⟨⟨e0, e1, e2, c0, c1, c2, c3, c4⟩, ⟨px0, px1, px2, px3, px4⟩⟩ := HG.out _ HW1.out
  go_enter Tryz.func94, Tryz.ntmps94
  go_wp2_with (fail)
  obtain ⟨gS, gx⟩ := HG.out _ HW1.out
  obtain ⟨ze0, ze1, ze2, zc0, zc1, zc2, zc3, zc4⟩ := gS.zs
  obtain ⟨zpx0, zpx1, zpx2, zpx3, zpx4⟩ := gx.zs
  clear e0 e1 e2 c0 c1 c2 c3 c4 px0 px1 px2 px3 px4 gS gx
  clear hw1
  refine wp_region_bel (by kernel_rfl) (by kernel_rfl) ?_
  repeat (go_big_quiet_step (first
    | (go_at_call 52; with_reducible exact Bel.calls (fun W hW => Hx.out W (btO HW1.out hW)) _)))
  refine wpQuiet_nil ?_
  rintro _ ⟨zz, rfl⟩
  clear ze0 ze1 ze2 zc0 zc1 zc2 zc3 zc4 zpx0 zpx1 zpx2 zpx3 zpx4
  have HW2 := Lib.hid (btO HW1.out zz.2)
  generalize zz.1 = w2 at *
  obtain ⟨⟨e0, e1, e2, c0, c1, c2, c3, c4⟩, ⟨px0, px1, px2, px3, px4⟩⟩ := HG.out _ HW2.out
  go_wp2_with (fail)
  all_goals go_ret2
  all_goals exact ⟨rfl, btO HB.out HW2.out⟩
end Go.Proofs.YtbfimfjhdbpenaaGreatDoor
/- Layer 8: the program's evaluation: number, truth: the plain ways. -/
namespace Go.Proofs.YtbfimfjhdbpenaaGreatDoor
open Go Go.RowKit Go.Maps Go.BigFrame
set_option maxRecDepth 100000 in
set_option maxHeartbeats 6400000 in
theorem pnum_1 (rr nn : ByteArray) (dd : Int) (A : Option Addr) (c : Nat) (s : List Ex) (E : Ev) (day : Int) (w : World) (hE : E.Inv w) :
    Calls Tryz.prog 51 #[evV day E, Ex.val (.mk 1 rr nn dd A c s)] w (StE rr 0 w) := by
  obtain ⟨fA, fs, fc, cA, cs, cc⟩ := E
  obtain ⟨w1, hw1, hB, hS⟩ := pv_begin w day 1 rr nn dd A s.length c fA fs.length fc cA cs.length cc
  have HB := Lib.hid hB
  have HG := Lib.hid (fun W (hW : Below w1.heap.size w1 W) => hS.below hW)
  have HW1 := Lib.hid (Below.refl w1.heap.size w1)
  show Calls Tryz.prog 51 #[.agg #[.int .i64 day, .slice fA fs.length fc, .slice cA cs.length cc], .agg #[.int .u8 1, .string rr, .string nn, .int .i64 dd, .slice A s.length c]] w _
  clear hE hB hS
  obtain ⟨e0, e1, e2, c0, c1, c2, c3, c4⟩ := HG.out _ HW1.out
  go_enter Tryz.func51, Tryz.ntmps51
  go_wp2_with (fail)
  all_goals go_ret2
  all_goals exact ⟨rfl, btO HB.out HW1.out⟩
set_option maxRecDepth 100000 in
set_option maxHeartbeats 6400000 in
theorem pnum_2 (rr nn : ByteArray) (dd : Int) (A : Option Addr) (c : Nat) (s : List Ex) (E : Ev) (day : Int) (w : World) (hE : E.Inv w) :
    Calls Tryz.prog 51 #[evV day E, Ex.val (.mk 2 rr nn dd A c s)] w (StE (lkN E.fs nn dd).1 (lkN E.fs nn dd).2 w) := by
  obtain ⟨fA, fs, fc, cA, cs, cc⟩ := E
  obtain ⟨w1, hw1, hB, hS⟩ := pv_begin w day 2 rr nn dd A s.length c fA fs.length fc cA cs.length cc
  have HB := Lib.hid hB
  have HG := Lib.hid (fun W (hW : Below w1.heap.size w1 W) => hS.below hW)
  have HF : Hid (Calls Tryz.prog 88 #[.agg #[.int .i64 day, .slice fA fs.length fc, .slice cA cs.length cc], .string nn, .int .i64 dd] w1 (StE (lkN fs nn dd).1 (lkN fs nn dd).2 w1)) := pfixing_any ⟨fA, fs, fc, cA, cs, cc⟩ day nn dd w1 (hE.below hB).i
  generalize lkN fs nn dd = lk at *
  have HW1 := Lib.hid (Below.refl w1.heap.size w1)
  show Calls Tryz.prog 51 #[.agg #[.int .i64 day, .slice fA fs.length fc, .slice cA cs.length cc], .agg #[.int .u8 2, .string rr, .string nn, .int .i64 dd, .slice A s.length c]] w _
  clear hE hB hS
  obtain ⟨e0, e1, e2, c0, c1, c2, c3, c4⟩ := HG.out _ HW1.out
  go_enter Tryz.func51, Tryz.ntmps51
  go_wp2_with ((go_at_call 88; ((with_reducible refine HF.out.mono ?_); rintro x w2 ⟨rfl, hb⟩; have HWF := Lib.hid hb; clear hb)))
  all_goals go_ret2
  all_goals exact ⟨rfl, btO HB.out HWF.out⟩
set_option maxRecDepth 100000 in
set_option maxHeartbeats 6400000 in
theorem pnum_3 (rr nn : ByteArray) (dd : Int) (A : Option Addr) (c : Nat) (s : List Ex) (E : Ev) (day : Int) (w : World) (hE : E.Inv w) :
    Calls Tryz.prog 51 #[evV day E, Ex.val (.mk 3 rr nn dd A c s)] w (StE (lkN E.fs nn day).1 (lkN E.fs nn day).2 w) := by
  obtain ⟨fA, fs, fc, cA, cs, cc⟩ := E
  obtain ⟨w1, hw1, hB, hS⟩ := pv_begin w day 3 rr nn dd A s.length c fA fs.length fc cA cs.length cc
  have HB := Lib.hid hB
  have HG := Lib.hid (fun W (hW : Below w1.heap.size w1 W) => hS.below hW)
  have HF : Hid (Calls Tryz.prog 88 #[.agg #[.int .i64 day, .slice fA fs.length fc, .slice cA cs.length cc], .string nn, .int .i64 day] w1 (StE (lkN fs nn day).1 (lkN fs nn day).2 w1)) := pfixing_any ⟨fA, fs, fc, cA, cs, cc⟩ day nn day w1 (hE.below hB).i
  generalize lkN fs nn day = lk at *
  have HW1 := Lib.hid (Below.refl w1.heap.size w1)
  show Calls Tryz.prog 51 #[.agg #[.int .i64 day, .slice fA fs.length fc, .slice cA cs.length cc], .agg #[.int .u8 3, .string rr, .string nn, .int .i64 dd, .slice A s.length c]] w _
  clear hE hB hS
  obtain ⟨e0, e1, e2, c0, c1, c2, c3, c4⟩ := HG.out _ HW1.out
  go_enter Tryz.func51, Tryz.ntmps51
  go_wp2_with ((go_at_call 88; ((with_reducible refine HF.out.mono ?_); rintro x w2 ⟨rfl, hb⟩; have HWF := Lib.hid hb; clear hb)))
  all_goals go_ret2
  all_goals exact ⟨rfl, btO HB.out HWF.out⟩
set_option maxRecDepth 100000 in
set_option maxHeartbeats 6400000 in
theorem pnum_9 (v : ByteArray) (e : Int) (rr nn : ByteArray) (dd : Int) (A : Option Addr) (c : Nat) (s : List Ex) (E : Ev) (day : Int) (w : World) (hin : Ex.In w (.mk 9 rr nn dd A c s)) (hE : E.Inv w) (hq : ∀ W, Ex.In W (.mk 9 rr nn dd A c s) → E.Inv W → Calls Tryz.prog 89 #[evV day E, Ex.val (.mk 9 rr nn dd A c s)] W (StE v e W)) :
    Calls Tryz.prog 51 #[evV day E, Ex.val (.mk 9 rr nn dd A c s)] w (StE v e w) := by
  obtain ⟨fA, fs, fc, cA, cs, cc⟩ := E
  obtain ⟨w1, hw1, hB, hS⟩ := pv_begin w day 9 rr nn dd A s.length c fA fs.length fc cA cs.length cc
  have HB := Lib.hid hB
  have HG := Lib.hid (fun W (hW : Below w1.heap.size w1 W) => hS.below hW)
  have HF : Hid (Calls Tryz.prog 89 #[.agg #[.int .i64 day, .slice fA fs.length fc, .slice cA cs.length cc], .agg #[.int .u8 9, .string rr, .string nn, .int .i64 dd, .slice A s.length c]] w1 (StE v e w1)) := hq w1 (hin.below hB) (hE.below hB)
  clear hq
  have HW1 := Lib.hid (Below.refl w1.heap.size w1)
  show Calls Tryz.prog 51 #[.agg #[.int .i64 day, .slice fA fs.length fc, .slice cA cs.length cc], .agg #[.int .u8 9, .string rr, .string nn, .int .i64 dd, .slice A s.length c]] w _
  clear hin hE hB hS
  obtain ⟨e0, e1, e2, c0, c1, c2, c3, c4⟩ := HG.out _ HW1.out
  go_enter Tryz.func51, Tryz.ntmps51
  go_wp2_with ((go_at_call 89; ((with_reducible refine HF.out.mono ?_); rintro x w2 ⟨rfl, hb⟩; have HWF := Lib.hid hb; clear hb)))
  all_goals go_ret2
  all_goals exact ⟨rfl, btO HB.out HWF.out⟩
set_option maxRecDepth 100000 in
set_option maxHeartbeats 6400000 in
theorem ptru_13 (v : Bool) (e : Int) (rr nn : ByteArray) (dd : Int) (A : Option Addr) (c : Nat) (s : List Ex) (E : Ev) (day : Int) (w : World) (hin : Ex.In w (.mk 13 rr nn dd A c s)) (hE : E.Inv w) (hq : ∀ W, Ex.In W (.mk 13 rr nn dd A c s) → E.Inv W → Calls Tryz.prog 92 #[evV day E, Ex.val (.mk 13 rr nn dd A c s)] W (TrE v e W)) :
    Calls Tryz.prog 52 #[evV day E, Ex.val (.mk 13 rr nn dd A c s)] w (TrE v e w) := by
  obtain ⟨fA, fs, fc, cA, cs, cc⟩ := E
  obtain ⟨w1, hw1, hB, hS⟩ := pv_begin w day 13 rr nn dd A s.length c fA fs.length fc cA cs.length cc
  have HB := Lib.hid hB
  have HG := Lib.hid (fun W (hW : Below w1.heap.size w1 W) => hS.below hW)
  have HF : Hid (Calls Tryz.prog 92 #[.agg #[.int .i64 day, .slice fA fs.length fc, .slice cA cs.length cc], .agg #[.int .u8 13, .string rr, .string nn, .int .i64 dd, .slice A s.length c]] w1 (TrE v e w1)) := hq w1 (hin.below hB) (hE.below hB)
  clear hq
  have HW1 := Lib.hid (Below.refl w1.heap.size w1)
  show Calls Tryz.prog 52 #[.agg #[.int .i64 day, .slice fA fs.length fc, .slice cA cs.length cc], .agg #[.int .u8 13, .string rr, .string nn, .int .i64 dd, .slice A s.length c]] w _
  clear hin hE hB hS
  obtain ⟨e0, e1, e2, c0, c1, c2, c3, c4⟩ := HG.out _ HW1.out
  go_enter Tryz.func52, Tryz.ntmps52
  go_wp2_with ((go_at_call 92; ((with_reducible refine HF.out.mono ?_); rintro x w2 ⟨rfl, hb⟩; have HWF := Lib.hid hb; clear hb)))
  all_goals go_ret2
  all_goals exact ⟨rfl, btO HB.out HWF.out⟩
set_option maxRecDepth 100000 in
set_option maxHeartbeats 6400000 in
theorem ptru_14 (v : Bool) (e : Int) (rr nn : ByteArray) (dd : Int) (A : Option Addr) (c : Nat) (s : List Ex) (E : Ev) (day : Int) (w : World) (hin : Ex.In w (.mk 14 rr nn dd A c s)) (hE : E.Inv w) (hq : ∀ W, Ex.In W (.mk 14 rr nn dd A c s) → E.Inv W → Calls Tryz.prog 93 #[evV day E, Ex.val (.mk 14 rr nn dd A c s)] W (TrE v e W)) :
    Calls Tryz.prog 52 #[evV day E, Ex.val (.mk 14 rr nn dd A c s)] w (TrE v e w) := by
  obtain ⟨fA, fs, fc, cA, cs, cc⟩ := E
  obtain ⟨w1, hw1, hB, hS⟩ := pv_begin w day 14 rr nn dd A s.length c fA fs.length fc cA cs.length cc
  have HB := Lib.hid hB
  have HG := Lib.hid (fun W (hW : Below w1.heap.size w1 W) => hS.below hW)
  have HF : Hid (Calls Tryz.prog 93 #[.agg #[.int .i64 day, .slice fA fs.length fc, .slice cA cs.length cc], .agg #[.int .u8 14, .string rr, .string nn, .int .i64 dd, .slice A s.length c]] w1 (TrE v e w1)) := hq w1 (hin.below hB) (hE.below hB)
  clear hq
  have HW1 := Lib.hid (Below.refl w1.heap.size w1)
  show Calls Tryz.prog 52 #[.agg #[.int .i64 day, .slice fA fs.length fc, .slice cA cs.length cc], .agg #[.int .u8 14, .string rr, .string nn, .int .i64 dd, .slice A s.length c]] w _
  clear hin hE hB hS
  obtain ⟨e0, e1, e2, c0, c1, c2, c3, c4⟩ := HG.out _ HW1.out
  go_enter Tryz.func52, Tryz.ntmps52
  go_wp2_with ((go_at_call 93; ((with_reducible refine HF.out.mono ?_); rintro x w2 ⟨rfl, hb⟩; have HWF := Lib.hid hb; clear hb)))
  all_goals go_ret2
  all_goals exact ⟨rfl, btO HB.out HWF.out⟩
set_option maxRecDepth 100000 in
set_option maxHeartbeats 6400000 in
theorem ptru_15 (v : Bool) (e : Int) (rr nn : ByteArray) (dd : Int) (A : Option Addr) (c : Nat) (s : List Ex) (E : Ev) (day : Int) (w : World) (hin : Ex.In w (.mk 15 rr nn dd A c s)) (hE : E.Inv w) (hq : ∀ W, Ex.In W (.mk 15 rr nn dd A c s) → E.Inv W → Calls Tryz.prog 94 #[evV day E, Ex.val (.mk 15 rr nn dd A c s)] W (TrE v e W)) :
    Calls Tryz.prog 52 #[evV day E, Ex.val (.mk 15 rr nn dd A c s)] w (TrE v e w) := by
  obtain ⟨fA, fs, fc, cA, cs, cc⟩ := E
  obtain ⟨w1, hw1, hB, hS⟩ := pv_begin w day 15 rr nn dd A s.length c fA fs.length fc cA cs.length cc
  have HB := Lib.hid hB
  have HG := Lib.hid (fun W (hW : Below w1.heap.size w1 W) => hS.below hW)
  have HF : Hid (Calls Tryz.prog 94 #[.agg #[.int .i64 day, .slice fA fs.length fc, .slice cA cs.length cc], .agg #[.int .u8 15, .string rr, .string nn, .int .i64 dd, .slice A s.length c]] w1 (TrE v e w1)) := hq w1 (hin.below hB) (hE.below hB)
  clear hq
  have HW1 := Lib.hid (Below.refl w1.heap.size w1)
  show Calls Tryz.prog 52 #[.agg #[.int .i64 day, .slice fA fs.length fc, .slice cA cs.length cc], .agg #[.int .u8 15, .string rr, .string nn, .int .i64 dd, .slice A s.length c]] w _
  clear hin hE hB hS
  obtain ⟨e0, e1, e2, c0, c1, c2, c3, c4⟩ := HG.out _ HW1.out
  go_enter Tryz.func52, Tryz.ntmps52
  go_wp2_with ((go_at_call 94; ((with_reducible refine HF.out.mono ?_); rintro x w2 ⟨rfl, hb⟩; have HWF := Lib.hid hb; clear hb)))
  all_goals go_ret2
  all_goals exact ⟨rfl, btO HB.out HWF.out⟩
set_option maxRecDepth 100000 in
set_option maxHeartbeats 6400000 in
theorem pnum_e (kk : Int) (k1 : (kk == 1) = false) (k2 : (kk == 2) = false) (k3 : (kk == 3) = false) (k9 : (kk == 9) = false) (va vb : ByteArray) (ea : Int) (rr nn : ByteArray) (dd : Int) (A : Option Addr) (c : Nat) (s : List Ex) (E : Ev) (day : Int) (w : World) (hin : Ex.In w (.mk kk rr nn dd A c s)) (hE : E.Inv w) (hq : ∀ W, Ex.In W (.mk kk rr nn dd A c s) → E.Inv W → Calls Tryz.prog 90 #[evV day E, Ex.val (.mk kk rr nn dd A c s)] W (PrE va vb ea W)) (hea : (ea != 0) = true) :
    Calls Tryz.prog 51 #[evV day E, Ex.val (.mk kk rr nn dd A c s)] w (StE ⟨#[]⟩ ea w) := by
  obtain ⟨fA, fs, fc, cA, cs, cc⟩ := E
  obtain ⟨w1, hw1, hB, hS⟩ := pv_begin w day kk rr nn dd A s.length c fA fs.length fc cA cs.length cc
  have HB := Lib.hid hB
  have HG := Lib.hid (fun W (hW : Below w1.heap.size w1 W) => hS.below hW)
  have HF : Hid (Calls Tryz.prog 90 #[.agg #[.int .i64 day, .slice fA fs.length fc, .slice cA cs.length cc], .agg #[.int .u8 kk, .string rr, .string nn, .int .i64 dd, .slice A s.length c]] w1 (PrE va vb ea w1)) := hq w1 (hin.below hB) (hE.below hB)
  clear hq
  have HW1 := Lib.hid (Below.refl w1.heap.size w1)
  show Calls Tryz.prog 51 #[.agg #[.int .i64 day, .slice fA fs.length fc, .slice cA cs.length cc], .agg #[.int .u8 kk, .string rr, .string nn, .int .i64 dd, .slice A s.length c]] w _
  clear hin hE hB hS
  obtain ⟨e0, e1, e2, c0, c1, c2, c3, c4⟩ := HG.out _ HW1.out
  go_enter Tryz.func51, Tryz.ntmps51
  go_wp2_with ((go_at_call 90; ((with_reducible refine HF.out.mono ?_); rintro x w2 ⟨rfl, hb⟩; have HW2 := Lib.hid hb; clear hb)))
  all_goals go_ret2
  all_goals exact ⟨rfl, btO HB.out (btO HW2.out (belO _ _))⟩
set_option maxRecDepth 100000 in
set_option maxHeartbeats 6400000 in
theorem ptru_e (kk : Int) (k13 : (kk == 13) = false) (k14 : (kk == 14) = false) (k15 : (kk == 15) = false) (va vb : ByteArray) (ea : Int) (rr nn : ByteArray) (dd : Int) (A : Option Addr) (c : Nat) (s : List Ex) (E : Ev) (day : Int) (w : World) (hin : Ex.In w (.mk kk rr nn dd A c s)) (hE : E.Inv w) (hq : ∀ W, Ex.In W (.mk kk rr nn dd A c s) → E.Inv W → Calls Tryz.prog 90 #[evV day E, Ex.val (.mk kk rr nn dd A c s)] W (PrE va vb ea W)) (hea : (ea != 0) = true) :
    Calls Tryz.prog 52 #[evV day E, Ex.val (.mk kk rr nn dd A c s)] w (TrE false ea w) := by
  obtain ⟨fA, fs, fc, cA, cs, cc⟩ := E
  obtain ⟨w1, hw1, hB, hS⟩ := pv_begin w day kk rr nn dd A s.length c fA fs.length fc cA cs.length cc
  have HB := Lib.hid hB
  have HG := Lib.hid (fun W (hW : Below w1.heap.size w1 W) => hS.below hW)
  have HF : Hid (Calls Tryz.prog 90 #[.agg #[.int .i64 day, .slice fA fs.length fc, .slice cA cs.length cc], .agg #[.int .u8 kk, .string rr, .string nn, .int .i64 dd, .slice A s.length c]] w1 (PrE va vb ea w1)) := hq w1 (hin.below hB) (hE.below hB)
  clear hq
  have HW1 := Lib.hid (Below.refl w1.heap.size w1)
  show Calls Tryz.prog 52 #[.agg #[.int .i64 day, .slice fA fs.length fc, .slice cA cs.length cc], .agg #[.int .u8 kk, .string rr, .string nn, .int .i64 dd, .slice A s.length c]] w _
  clear hin hE hB hS
  obtain ⟨e0, e1, e2, c0, c1, c2, c3, c4⟩ := HG.out _ HW1.out
  go_enter Tryz.func52, Tryz.ntmps52
  go_wp2_with ((go_at_call 90; ((with_reducible refine HF.out.mono ?_); rintro x w2 ⟨rfl, hb⟩; have HW2 := Lib.hid hb; clear hb)))
  all_goals go_ret2
  all_goals exact ⟨rfl, btO HB.out (btO HW2.out (belO _ _))⟩
end Go.Proofs.YtbfimfjhdbpenaaGreatDoor
/- Layer 8: the program's evaluation: number, truth: the operations. -/
namespace Go.Proofs.YtbfimfjhdbpenaaGreatDoor
open Go Go.RowKit Go.Maps Go.BigFrame
set_option maxRecDepth 100000 in
set_option maxHeartbeats 6400000 in
theorem pnum_4 (va vb v : ByteArray) (e : Int) (rr nn : ByteArray) (dd : Int) (A : Option Addr) (c : Nat) (s : List Ex) (E : Ev) (day : Int) (w : World) (hin : Ex.In w (.mk 4 rr nn dd A c s)) (hE : E.Inv w) (hq : ∀ W, Ex.In W (.mk 4 rr nn dd A c s) → E.Inv W → Calls Tryz.prog 90 #[evV day E, Ex.val (.mk 4 rr nn dd A c s)] W (PrE va vb 0 W)) (ho : ∀ W, Below w.heap.size w W → Calls Tryz.prog 128 #[.agg #[.string va, .string vb]] W (StE v e W)) :
    Calls Tryz.prog 51 #[evV day E, Ex.val (.mk 4 rr nn dd A c s)] w (StE v e w) := by
  obtain ⟨fA, fs, fc, cA, cs, cc⟩ := E
  obtain ⟨w1, hw1, hB, hS⟩ := pv_begin w day 4 rr nn dd A s.length c fA fs.length fc cA cs.length cc
  have HB := Lib.hid hB
  have HG := Lib.hid (fun W (hW : Below w1.heap.size w1 W) => hS.below hW)
  have HF : Hid (Calls Tryz.prog 90 #[.agg #[.int .i64 day, .slice fA fs.length fc, .slice cA cs.length cc], .agg #[.int .u8 4, .string rr, .string nn, .int .i64 dd, .slice A s.length c]] w1 (PrE va vb 0 w1)) := hq w1 (hin.below hB) (hE.below hB)
  clear hq
  have HO := Lib.hid (fun W (hW : Below w1.heap.size w1 W) => ho W (btO hB hW))
  clear ho
  have HOps := Lib.hid pops_any
  have HW1 := Lib.hid (Below.refl w1.heap.size w1)
  show Calls Tryz.prog 51 #[.agg #[.int .i64 day, .slice fA fs.length fc, .slice cA cs.length cc], .agg #[.int .u8 4, .string rr, .string nn, .int .i64 dd, .slice A s.length c]] w _
  clear hin hE hB hS
  obtain ⟨e0, e1, e2, c0, c1, c2, c3, c4⟩ := HG.out _ HW1.out
  go_enter Tryz.func51, Tryz.ntmps51
  go_wp2_with ((go_at_call 90; ((with_reducible refine HF.out.mono ?_); rintro x w2 ⟨rfl, hb⟩; have HW2 := Lib.hid hb; clear hb)))
  clear hw1 e0 e1 e2 c0 c1 c2 c3 c4
  obtain ⟨w5, hw5⟩ : ∃ w5, w2.alloc (.cells #[.string va, .string vb] 125) = w5 := ⟨_, rfl⟩
  have hr := heap_alloc_new w2 (.cells #[.string va, .string vb] 125)
  have HW5 := Lib.hid (btO HW2.out (belO w2 (.cells #[.string va, .string vb] 125)))
  rw [hw5] at hr HW5
  have g0 := row_cell (j := 0) hr rfl
  have g1 := row_cell (j := 1) hr rfl
  obtain ⟨-, -, -, c0, -, -, -, -⟩ := HG.out _ HW5.out
  have kq : keyOf Tryz.prog 5 (.int .u8 4) = some (.int .u8 4) := keyOf_int_mk Tryz.underlying5 (by decide)
  have B5 := Below.drew (Below.refl w5.heap.size w5)
  clear hr
  try rw [hw5]
  clear hw5
  go_region_held3 (fun w' => w'.cell? ⟨w.heap.size + 1, 0, none⟩ = some (.int .u8 4) ∧ w'.cell? ⟨w2.heap.size, 0, none⟩ = some (.string va) ∧ w'.cell? ⟨w2.heap.size, 1, none⟩ = some (.string vb))
    (((try go_split_ands); (and_intros) <;> first | assumption | (go_keep; done)))
    (first
      | (go_split_ands; go_at_call 91; refine (HOps.out _).mono ?_; rintro e w6 ⟨Bm, rfl, om, b6⟩; have B6 := btO B5 b6; have hl := lookF_run 129 5 128 u8K Tryz.underlying129 (zero_ops _) Bm 5 opsD om _ _ kq 128 at_ops4; have i0 := cellO b6 c0; have i1 := cellO b6 g0; have i2 := cellO b6 g1)
      | (go_split_ands; go_at_call 128; refine (HO.out _ (btO HW5.out B6)).mono ?_; rintro e w7 ⟨rfl, b7⟩; have B7 := btO B6 b7; have j0 := cellO b7 i0; have j1 := cellO b7 i1; have j2 := cellO b7 i2))
  all_goals go_wp2_with (fail)
  all_goals go_ret2
  all_goals exact ⟨rfl, btO HB.out (btO HW5.out B7)⟩
set_option maxRecDepth 100000 in
set_option maxHeartbeats 6400000 in
theorem pnum_5 (va vb v : ByteArray) (e : Int) (rr nn : ByteArray) (dd : Int) (A : Option Addr) (c : Nat) (s : List Ex) (E : Ev) (day : Int) (w : World) (hin : Ex.In w (.mk 5 rr nn dd A c s)) (hE : E.Inv w) (hq : ∀ W, Ex.In W (.mk 5 rr nn dd A c s) → E.Inv W → Calls Tryz.prog 90 #[evV day E, Ex.val (.mk 5 rr nn dd A c s)] W (PrE va vb 0 W)) (ho : ∀ W, Below w.heap.size w W → Calls Tryz.prog 129 #[.agg #[.string va, .string vb]] W (StE v e W)) :
    Calls Tryz.prog 51 #[evV day E, Ex.val (.mk 5 rr nn dd A c s)] w (StE v e w) := by
  obtain ⟨fA, fs, fc, cA, cs, cc⟩ := E
  obtain ⟨w1, hw1, hB, hS⟩ := pv_begin w day 5 rr nn dd A s.length c fA fs.length fc cA cs.length cc
  have HB := Lib.hid hB
  have HG := Lib.hid (fun W (hW : Below w1.heap.size w1 W) => hS.below hW)
  have HF : Hid (Calls Tryz.prog 90 #[.agg #[.int .i64 day, .slice fA fs.length fc, .slice cA cs.length cc], .agg #[.int .u8 5, .string rr, .string nn, .int .i64 dd, .slice A s.length c]] w1 (PrE va vb 0 w1)) := hq w1 (hin.below hB) (hE.below hB)
  clear hq
  have HO := Lib.hid (fun W (hW : Below w1.heap.size w1 W) => ho W (btO hB hW))
  clear ho
  have HOps := Lib.hid pops_any
  have HW1 := Lib.hid (Below.refl w1.heap.size w1)
  show Calls Tryz.prog 51 #[.agg #[.int .i64 day, .slice fA fs.length fc, .slice cA cs.length cc], .agg #[.int .u8 5, .string rr, .string nn, .int .i64 dd, .slice A s.length c]] w _
  clear hin hE hB hS
  obtain ⟨e0, e1, e2, c0, c1, c2, c3, c4⟩ := HG.out _ HW1.out
  go_enter Tryz.func51, Tryz.ntmps51
  go_wp2_with ((go_at_call 90; ((with_reducible refine HF.out.mono ?_); rintro x w2 ⟨rfl, hb⟩; have HW2 := Lib.hid hb; clear hb)))
  clear hw1 e0 e1 e2 c0 c1 c2 c3 c4
  obtain ⟨w5, hw5⟩ : ∃ w5, w2.alloc (.cells #[.string va, .string vb] 125) = w5 := ⟨_, rfl⟩
  have hr := heap_alloc_new w2 (.cells #[.string va, .string vb] 125)
  have HW5 := Lib.hid (btO HW2.out (belO w2 (.cells #[.string va, .string vb] 125)))
  rw [hw5] at hr HW5
  have g0 := row_cell (j := 0) hr rfl
  have g1 := row_cell (j := 1) hr rfl
  obtain ⟨-, -, -, c0, -, -, -, -⟩ := HG.out _ HW5.out
  have kq : keyOf Tryz.prog 5 (.int .u8 5) = some (.int .u8 5) := keyOf_int_mk Tryz.underlying5 (by decide)
  have B5 := Below.drew (Below.refl w5.heap.size w5)
  clear hr
  try rw [hw5]
  clear hw5
  go_region_held3 (fun w' => w'.cell? ⟨w.heap.size + 1, 0, none⟩ = some (.int .u8 5) ∧ w'.cell? ⟨w2.heap.size, 0, none⟩ = some (.string va) ∧ w'.cell? ⟨w2.heap.size, 1, none⟩ = some (.string vb))
    (((try go_split_ands); (and_intros) <;> first | assumption | (go_keep; done)))
    (first
      | (go_split_ands; go_at_call 91; refine (HOps.out _).mono ?_; rintro e w6 ⟨Bm, rfl, om, b6⟩; have B6 := btO B5 b6; have hl := lookF_run 129 5 128 u8K Tryz.underlying129 (zero_ops _) Bm 5 opsD om _ _ kq 129 at_ops5; have i0 := cellO b6 c0; have i1 := cellO b6 g0; have i2 := cellO b6 g1)
      | (go_split_ands; go_at_call 129; refine (HO.out _ (btO HW5.out B6)).mono ?_; rintro e w7 ⟨rfl, b7⟩; have B7 := btO B6 b7; have j0 := cellO b7 i0; have j1 := cellO b7 i1; have j2 := cellO b7 i2))
  all_goals go_wp2_with (fail)
  all_goals go_ret2
  all_goals exact ⟨rfl, btO HB.out (btO HW5.out B7)⟩
set_option maxRecDepth 100000 in
set_option maxHeartbeats 6400000 in
theorem pnum_6 (va vb v : ByteArray) (e : Int) (rr nn : ByteArray) (dd : Int) (A : Option Addr) (c : Nat) (s : List Ex) (E : Ev) (day : Int) (w : World) (hin : Ex.In w (.mk 6 rr nn dd A c s)) (hE : E.Inv w) (hq : ∀ W, Ex.In W (.mk 6 rr nn dd A c s) → E.Inv W → Calls Tryz.prog 90 #[evV day E, Ex.val (.mk 6 rr nn dd A c s)] W (PrE va vb 0 W)) (ho : ∀ W, Below w.heap.size w W → Calls Tryz.prog 130 #[.agg #[.string va, .string vb]] W (StE v e W)) :
    Calls Tryz.prog 51 #[evV day E, Ex.val (.mk 6 rr nn dd A c s)] w (StE v e w) := by
  obtain ⟨fA, fs, fc, cA, cs, cc⟩ := E
  obtain ⟨w1, hw1, hB, hS⟩ := pv_begin w day 6 rr nn dd A s.length c fA fs.length fc cA cs.length cc
  have HB := Lib.hid hB
  have HG := Lib.hid (fun W (hW : Below w1.heap.size w1 W) => hS.below hW)
  have HF : Hid (Calls Tryz.prog 90 #[.agg #[.int .i64 day, .slice fA fs.length fc, .slice cA cs.length cc], .agg #[.int .u8 6, .string rr, .string nn, .int .i64 dd, .slice A s.length c]] w1 (PrE va vb 0 w1)) := hq w1 (hin.below hB) (hE.below hB)
  clear hq
  have HO := Lib.hid (fun W (hW : Below w1.heap.size w1 W) => ho W (btO hB hW))
  clear ho
  have HOps := Lib.hid pops_any
  have HW1 := Lib.hid (Below.refl w1.heap.size w1)
  show Calls Tryz.prog 51 #[.agg #[.int .i64 day, .slice fA fs.length fc, .slice cA cs.length cc], .agg #[.int .u8 6, .string rr, .string nn, .int .i64 dd, .slice A s.length c]] w _
  clear hin hE hB hS
  obtain ⟨e0, e1, e2, c0, c1, c2, c3, c4⟩ := HG.out _ HW1.out
  go_enter Tryz.func51, Tryz.ntmps51
  go_wp2_with ((go_at_call 90; ((with_reducible refine HF.out.mono ?_); rintro x w2 ⟨rfl, hb⟩; have HW2 := Lib.hid hb; clear hb)))
  clear hw1 e0 e1 e2 c0 c1 c2 c3 c4
  obtain ⟨w5, hw5⟩ : ∃ w5, w2.alloc (.cells #[.string va, .string vb] 125) = w5 := ⟨_, rfl⟩
  have hr := heap_alloc_new w2 (.cells #[.string va, .string vb] 125)
  have HW5 := Lib.hid (btO HW2.out (belO w2 (.cells #[.string va, .string vb] 125)))
  rw [hw5] at hr HW5
  have g0 := row_cell (j := 0) hr rfl
  have g1 := row_cell (j := 1) hr rfl
  obtain ⟨-, -, -, c0, -, -, -, -⟩ := HG.out _ HW5.out
  have kq : keyOf Tryz.prog 5 (.int .u8 6) = some (.int .u8 6) := keyOf_int_mk Tryz.underlying5 (by decide)
  have B5 := Below.drew (Below.refl w5.heap.size w5)
  clear hr
  try rw [hw5]
  clear hw5
  go_region_held3 (fun w' => w'.cell? ⟨w.heap.size + 1, 0, none⟩ = some (.int .u8 6) ∧ w'.cell? ⟨w2.heap.size, 0, none⟩ = some (.string va) ∧ w'.cell? ⟨w2.heap.size, 1, none⟩ = some (.string vb))
    (((try go_split_ands); (and_intros) <;> first | assumption | (go_keep; done)))
    (first
      | (go_split_ands; go_at_call 91; refine (HOps.out _).mono ?_; rintro e w6 ⟨Bm, rfl, om, b6⟩; have B6 := btO B5 b6; have hl := lookF_run 129 5 128 u8K Tryz.underlying129 (zero_ops _) Bm 5 opsD om _ _ kq 130 at_ops6; have i0 := cellO b6 c0; have i1 := cellO b6 g0; have i2 := cellO b6 g1)
      | (go_split_ands; go_at_call 130; refine (HO.out _ (btO HW5.out B6)).mono ?_; rintro e w7 ⟨rfl, b7⟩; have B7 := btO B6 b7; have j0 := cellO b7 i0; have j1 := cellO b7 i1; have j2 := cellO b7 i2))
  all_goals go_wp2_with (fail)
  all_goals go_ret2
  all_goals exact ⟨rfl, btO HB.out (btO HW5.out B7)⟩
set_option maxRecDepth 100000 in
set_option maxHeartbeats 6400000 in
theorem pnum_7 (va vb v : ByteArray) (e : Int) (rr nn : ByteArray) (dd : Int) (A : Option Addr) (c : Nat) (s : List Ex) (E : Ev) (day : Int) (w : World) (hin : Ex.In w (.mk 7 rr nn dd A c s)) (hE : E.Inv w) (hq : ∀ W, Ex.In W (.mk 7 rr nn dd A c s) → E.Inv W → Calls Tryz.prog 90 #[evV day E, Ex.val (.mk 7 rr nn dd A c s)] W (PrE va vb 0 W)) (ho : ∀ W, Below w.heap.size w W → Calls Tryz.prog 131 #[.agg #[.string va, .string vb]] W (StE v e W)) :
    Calls Tryz.prog 51 #[evV day E, Ex.val (.mk 7 rr nn dd A c s)] w (StE v e w) := by
  obtain ⟨fA, fs, fc, cA, cs, cc⟩ := E
  obtain ⟨w1, hw1, hB, hS⟩ := pv_begin w day 7 rr nn dd A s.length c fA fs.length fc cA cs.length cc
  have HB := Lib.hid hB
  have HG := Lib.hid (fun W (hW : Below w1.heap.size w1 W) => hS.below hW)
  have HF : Hid (Calls Tryz.prog 90 #[.agg #[.int .i64 day, .slice fA fs.length fc, .slice cA cs.length cc], .agg #[.int .u8 7, .string rr, .string nn, .int .i64 dd, .slice A s.length c]] w1 (PrE va vb 0 w1)) := hq w1 (hin.below hB) (hE.below hB)
  clear hq
  have HO := Lib.hid (fun W (hW : Below w1.heap.size w1 W) => ho W (btO hB hW))
  clear ho
  have HOps := Lib.hid pops_any
  have HW1 := Lib.hid (Below.refl w1.heap.size w1)
  show Calls Tryz.prog 51 #[.agg #[.int .i64 day, .slice fA fs.length fc, .slice cA cs.length cc], .agg #[.int .u8 7, .string rr, .string nn, .int .i64 dd, .slice A s.length c]] w _
  clear hin hE hB hS
  obtain ⟨e0, e1, e2, c0, c1, c2, c3, c4⟩ := HG.out _ HW1.out
  go_enter Tryz.func51, Tryz.ntmps51
  go_wp2_with ((go_at_call 90; ((with_reducible refine HF.out.mono ?_); rintro x w2 ⟨rfl, hb⟩; have HW2 := Lib.hid hb; clear hb)))
  clear hw1 e0 e1 e2 c0 c1 c2 c3 c4
  obtain ⟨w5, hw5⟩ : ∃ w5, w2.alloc (.cells #[.string va, .string vb] 125) = w5 := ⟨_, rfl⟩
  have hr := heap_alloc_new w2 (.cells #[.string va, .string vb] 125)
  have HW5 := Lib.hid (btO HW2.out (belO w2 (.cells #[.string va, .string vb] 125)))
  rw [hw5] at hr HW5
  have g0 := row_cell (j := 0) hr rfl
  have g1 := row_cell (j := 1) hr rfl
  obtain ⟨-, -, -, c0, -, -, -, -⟩ := HG.out _ HW5.out
  have kq : keyOf Tryz.prog 5 (.int .u8 7) = some (.int .u8 7) := keyOf_int_mk Tryz.underlying5 (by decide)
  have B5 := Below.drew (Below.refl w5.heap.size w5)
  clear hr
  try rw [hw5]
  clear hw5
  go_region_held3 (fun w' => w'.cell? ⟨w.heap.size + 1, 0, none⟩ = some (.int .u8 7) ∧ w'.cell? ⟨w2.heap.size, 0, none⟩ = some (.string va) ∧ w'.cell? ⟨w2.heap.size, 1, none⟩ = some (.string vb))
    (((try go_split_ands); (and_intros) <;> first | assumption | (go_keep; done)))
    (first
      | (go_split_ands; go_at_call 91; refine (HOps.out _).mono ?_; rintro e w6 ⟨Bm, rfl, om, b6⟩; have B6 := btO B5 b6; have hl := lookF_run 129 5 128 u8K Tryz.underlying129 (zero_ops _) Bm 5 opsD om _ _ kq 131 at_ops7; have i0 := cellO b6 c0; have i1 := cellO b6 g0; have i2 := cellO b6 g1)
      | (go_split_ands; go_at_call 131; refine (HO.out _ (btO HW5.out B6)).mono ?_; rintro e w7 ⟨rfl, b7⟩; have B7 := btO B6 b7; have j0 := cellO b7 i0; have j1 := cellO b7 i1; have j2 := cellO b7 i2))
  all_goals go_wp2_with (fail)
  all_goals go_ret2
  all_goals exact ⟨rfl, btO HB.out (btO HW5.out B7)⟩
set_option maxRecDepth 100000 in
set_option maxHeartbeats 6400000 in
theorem pnum_8 (va vb v : ByteArray) (e : Int) (rr nn : ByteArray) (dd : Int) (A : Option Addr) (c : Nat) (s : List Ex) (E : Ev) (day : Int) (w : World) (hin : Ex.In w (.mk 8 rr nn dd A c s)) (hE : E.Inv w) (hq : ∀ W, Ex.In W (.mk 8 rr nn dd A c s) → E.Inv W → Calls Tryz.prog 90 #[evV day E, Ex.val (.mk 8 rr nn dd A c s)] W (PrE va vb 0 W)) (ho : ∀ W, Below w.heap.size w W → Calls Tryz.prog 132 #[.agg #[.string va, .string vb]] W (StE v e W)) :
    Calls Tryz.prog 51 #[evV day E, Ex.val (.mk 8 rr nn dd A c s)] w (StE v e w) := by
  obtain ⟨fA, fs, fc, cA, cs, cc⟩ := E
  obtain ⟨w1, hw1, hB, hS⟩ := pv_begin w day 8 rr nn dd A s.length c fA fs.length fc cA cs.length cc
  have HB := Lib.hid hB
  have HG := Lib.hid (fun W (hW : Below w1.heap.size w1 W) => hS.below hW)
  have HF : Hid (Calls Tryz.prog 90 #[.agg #[.int .i64 day, .slice fA fs.length fc, .slice cA cs.length cc], .agg #[.int .u8 8, .string rr, .string nn, .int .i64 dd, .slice A s.length c]] w1 (PrE va vb 0 w1)) := hq w1 (hin.below hB) (hE.below hB)
  clear hq
  have HO := Lib.hid (fun W (hW : Below w1.heap.size w1 W) => ho W (btO hB hW))
  clear ho
  have HOps := Lib.hid pops_any
  have HW1 := Lib.hid (Below.refl w1.heap.size w1)
  show Calls Tryz.prog 51 #[.agg #[.int .i64 day, .slice fA fs.length fc, .slice cA cs.length cc], .agg #[.int .u8 8, .string rr, .string nn, .int .i64 dd, .slice A s.length c]] w _
  clear hin hE hB hS
  obtain ⟨e0, e1, e2, c0, c1, c2, c3, c4⟩ := HG.out _ HW1.out
  go_enter Tryz.func51, Tryz.ntmps51
  go_wp2_with ((go_at_call 90; ((with_reducible refine HF.out.mono ?_); rintro x w2 ⟨rfl, hb⟩; have HW2 := Lib.hid hb; clear hb)))
  clear hw1 e0 e1 e2 c0 c1 c2 c3 c4
  obtain ⟨w5, hw5⟩ : ∃ w5, w2.alloc (.cells #[.string va, .string vb] 125) = w5 := ⟨_, rfl⟩
  have hr := heap_alloc_new w2 (.cells #[.string va, .string vb] 125)
  have HW5 := Lib.hid (btO HW2.out (belO w2 (.cells #[.string va, .string vb] 125)))
  rw [hw5] at hr HW5
  have g0 := row_cell (j := 0) hr rfl
  have g1 := row_cell (j := 1) hr rfl
  obtain ⟨-, -, -, c0, -, -, -, -⟩ := HG.out _ HW5.out
  have kq : keyOf Tryz.prog 5 (.int .u8 8) = some (.int .u8 8) := keyOf_int_mk Tryz.underlying5 (by decide)
  have B5 := Below.drew (Below.refl w5.heap.size w5)
  clear hr
  try rw [hw5]
  clear hw5
  go_region_held3 (fun w' => w'.cell? ⟨w.heap.size + 1, 0, none⟩ = some (.int .u8 8) ∧ w'.cell? ⟨w2.heap.size, 0, none⟩ = some (.string va) ∧ w'.cell? ⟨w2.heap.size, 1, none⟩ = some (.string vb))
    (((try go_split_ands); (and_intros) <;> first | assumption | (go_keep; done)))
    (first
      | (go_split_ands; go_at_call 91; refine (HOps.out _).mono ?_; rintro e w6 ⟨Bm, rfl, om, b6⟩; have B6 := btO B5 b6; have hl := lookF_run 129 5 128 u8K Tryz.underlying129 (zero_ops _) Bm 5 opsD om _ _ kq 132 at_ops8; have i0 := cellO b6 c0; have i1 := cellO b6 g0; have i2 := cellO b6 g1)
      | (go_split_ands; go_at_call 132; refine (HO.out _ (btO HW5.out B6)).mono ?_; rintro e w7 ⟨rfl, b7⟩; have B7 := btO B6 b7; have j0 := cellO b7 i0; have j1 := cellO b7 i1; have j2 := cellO b7 i2))
  all_goals go_wp2_with (fail)
  all_goals go_ret2
  all_goals exact ⟨rfl, btO HB.out (btO HW5.out B7)⟩
set_option maxRecDepth 100000 in
set_option maxHeartbeats 6400000 in
theorem ptru_11 (va vb : ByteArray) (v : Bool) (e : Int) (rr nn : ByteArray) (dd : Int) (A : Option Addr) (c : Nat) (s : List Ex) (E : Ev) (day : Int) (w : World) (hin : Ex.In w (.mk 11 rr nn dd A c s)) (hE : E.Inv w) (hq : ∀ W, Ex.In W (.mk 11 rr nn dd A c s) → E.Inv W → Calls Tryz.prog 90 #[evV day E, Ex.val (.mk 11 rr nn dd A c s)] W (PrE va vb 0 W)) (ho : ∀ W, Below w.heap.size w W → Calls Tryz.prog 133 #[.agg #[.string va, .string vb]] W (TrE v e W)) :
    Calls Tryz.prog 52 #[evV day E, Ex.val (.mk 11 rr nn dd A c s)] w (TrE v e w) := by
  obtain ⟨fA, fs, fc, cA, cs, cc⟩ := E
  obtain ⟨w1, hw1, hB, hS⟩ := pv_begin w day 11 rr nn dd A s.length c fA fs.length fc cA cs.length cc
  have HB := Lib.hid hB
  have HG := Lib.hid (fun W (hW : Below w1.heap.size w1 W) => hS.below hW)
  have HF : Hid (Calls Tryz.prog 90 #[.agg #[.int .i64 day, .slice fA fs.length fc, .slice cA cs.length cc], .agg #[.int .u8 11, .string rr, .string nn, .int .i64 dd, .slice A s.length c]] w1 (PrE va vb 0 w1)) := hq w1 (hin.below hB) (hE.below hB)
  clear hq
  have HO := Lib.hid (fun W (hW : Below w1.heap.size w1 W) => ho W (btO hB hW))
  clear ho
  have HOps := Lib.hid pcps_any
  have HW1 := Lib.hid (Below.refl w1.heap.size w1)
  show Calls Tryz.prog 52 #[.agg #[.int .i64 day, .slice fA fs.length fc, .slice cA cs.length cc], .agg #[.int .u8 11, .string rr, .string nn, .int .i64 dd, .slice A s.length c]] w _
  clear hin hE hB hS
  obtain ⟨e0, e1, e2, c0, c1, c2, c3, c4⟩ := HG.out _ HW1.out
  go_enter Tryz.func52, Tryz.ntmps52
  go_wp2_with ((go_at_call 90; ((with_reducible refine HF.out.mono ?_); rintro x w2 ⟨rfl, hb⟩; have HW2 := Lib.hid hb; clear hb)))
  clear hw1 e0 e1 e2 c0 c1 c2 c3 c4
  obtain ⟨w5, hw5⟩ : ∃ w5, w2.alloc (.cells #[.string va, .string vb] 125) = w5 := ⟨_, rfl⟩
  have hr := heap_alloc_new w2 (.cells #[.string va, .string vb] 125)
  have HW5 := Lib.hid (btO HW2.out (belO w2 (.cells #[.string va, .string vb] 125)))
  rw [hw5] at hr HW5
  have g0 := row_cell (j := 0) hr rfl
  have g1 := row_cell (j := 1) hr rfl
  obtain ⟨-, -, -, c0, -, -, -, -⟩ := HG.out _ HW5.out
  have kq : keyOf Tryz.prog 5 (.int .u8 11) = some (.int .u8 11) := keyOf_int_mk Tryz.underlying5 (by decide)
  have B5 := Below.drew (Below.refl w5.heap.size w5)
  clear hr
  try rw [hw5]
  clear hw5
  go_region_held3 (fun w' => w'.cell? ⟨w.heap.size + 1, 0, none⟩ = some (.int .u8 11) ∧ w'.cell? ⟨w2.heap.size, 0, none⟩ = some (.string va) ∧ w'.cell? ⟨w2.heap.size, 1, none⟩ = some (.string vb))
    (((try go_split_ands); (and_intros) <;> first | assumption | (go_keep; done)))
    (first
      | (go_split_ands; go_at_call 95; refine (HOps.out _).mono ?_; rintro e w6 ⟨Bm, rfl, om, b6⟩; have B6 := btO B5 b6; have hl := lookF_run 132 5 131 u8K Tryz.underlying132 (zero_cps _) Bm 2 cpsD om _ _ kq 133 at_cps11; have i0 := cellO b6 c0; have i1 := cellO b6 g0; have i2 := cellO b6 g1)
      | (go_split_ands; go_at_call 133; refine (HO.out _ (btO HW5.out B6)).mono ?_; rintro e w7 ⟨rfl, b7⟩; have B7 := btO B6 b7; have j0 := cellO b7 i0; have j1 := cellO b7 i1; have j2 := cellO b7 i2))
  all_goals go_wp2_with (fail)
  all_goals go_ret2
  all_goals exact ⟨rfl, btO HB.out (btO HW5.out B7)⟩
set_option maxRecDepth 100000 in
set_option maxHeartbeats 6400000 in
theorem ptru_12 (va vb : ByteArray) (v : Bool) (e : Int) (rr nn : ByteArray) (dd : Int) (A : Option Addr) (c : Nat) (s : List Ex) (E : Ev) (day : Int) (w : World) (hin : Ex.In w (.mk 12 rr nn dd A c s)) (hE : E.Inv w) (hq : ∀ W, Ex.In W (.mk 12 rr nn dd A c s) → E.Inv W → Calls Tryz.prog 90 #[evV day E, Ex.val (.mk 12 rr nn dd A c s)] W (PrE va vb 0 W)) (ho : ∀ W, Below w.heap.size w W → Calls Tryz.prog 134 #[.agg #[.string va, .string vb]] W (TrE v e W)) :
    Calls Tryz.prog 52 #[evV day E, Ex.val (.mk 12 rr nn dd A c s)] w (TrE v e w) := by
  obtain ⟨fA, fs, fc, cA, cs, cc⟩ := E
  obtain ⟨w1, hw1, hB, hS⟩ := pv_begin w day 12 rr nn dd A s.length c fA fs.length fc cA cs.length cc
  have HB := Lib.hid hB
  have HG := Lib.hid (fun W (hW : Below w1.heap.size w1 W) => hS.below hW)
  have HF : Hid (Calls Tryz.prog 90 #[.agg #[.int .i64 day, .slice fA fs.length fc, .slice cA cs.length cc], .agg #[.int .u8 12, .string rr, .string nn, .int .i64 dd, .slice A s.length c]] w1 (PrE va vb 0 w1)) := hq w1 (hin.below hB) (hE.below hB)
  clear hq
  have HO := Lib.hid (fun W (hW : Below w1.heap.size w1 W) => ho W (btO hB hW))
  clear ho
  have HOps := Lib.hid pcps_any
  have HW1 := Lib.hid (Below.refl w1.heap.size w1)
  show Calls Tryz.prog 52 #[.agg #[.int .i64 day, .slice fA fs.length fc, .slice cA cs.length cc], .agg #[.int .u8 12, .string rr, .string nn, .int .i64 dd, .slice A s.length c]] w _
  clear hin hE hB hS
  obtain ⟨e0, e1, e2, c0, c1, c2, c3, c4⟩ := HG.out _ HW1.out
  go_enter Tryz.func52, Tryz.ntmps52
  go_wp2_with ((go_at_call 90; ((with_reducible refine HF.out.mono ?_); rintro x w2 ⟨rfl, hb⟩; have HW2 := Lib.hid hb; clear hb)))
  clear hw1 e0 e1 e2 c0 c1 c2 c3 c4
  obtain ⟨w5, hw5⟩ : ∃ w5, w2.alloc (.cells #[.string va, .string vb] 125) = w5 := ⟨_, rfl⟩
  have hr := heap_alloc_new w2 (.cells #[.string va, .string vb] 125)
  have HW5 := Lib.hid (btO HW2.out (belO w2 (.cells #[.string va, .string vb] 125)))
  rw [hw5] at hr HW5
  have g0 := row_cell (j := 0) hr rfl
  have g1 := row_cell (j := 1) hr rfl
  obtain ⟨-, -, -, c0, -, -, -, -⟩ := HG.out _ HW5.out
  have kq : keyOf Tryz.prog 5 (.int .u8 12) = some (.int .u8 12) := keyOf_int_mk Tryz.underlying5 (by decide)
  have B5 := Below.drew (Below.refl w5.heap.size w5)
  clear hr
  try rw [hw5]
  clear hw5
  go_region_held3 (fun w' => w'.cell? ⟨w.heap.size + 1, 0, none⟩ = some (.int .u8 12) ∧ w'.cell? ⟨w2.heap.size, 0, none⟩ = some (.string va) ∧ w'.cell? ⟨w2.heap.size, 1, none⟩ = some (.string vb))
    (((try go_split_ands); (and_intros) <;> first | assumption | (go_keep; done)))
    (first
      | (go_split_ands; go_at_call 95; refine (HOps.out _).mono ?_; rintro e w6 ⟨Bm, rfl, om, b6⟩; have B6 := btO B5 b6; have hl := lookF_run 132 5 131 u8K Tryz.underlying132 (zero_cps _) Bm 2 cpsD om _ _ kq 134 at_cps12; have i0 := cellO b6 c0; have i1 := cellO b6 g0; have i2 := cellO b6 g1)
      | (go_split_ands; go_at_call 134; refine (HO.out _ (btO HW5.out B6)).mono ?_; rintro e w7 ⟨rfl, b7⟩; have B7 := btO B6 b7; have j0 := cellO b7 i0; have j1 := cellO b7 i1; have j2 := cellO b7 i2))
  all_goals go_wp2_with (fail)
  all_goals go_ret2
  all_goals exact ⟨rfl, btO HB.out (btO HW5.out B7)⟩
end Go.Proofs.YtbfimfjhdbpenaaGreatDoor
/- Layer 8: the program's evaluation. -/
namespace Go.Proofs.YtbfimfjhdbpenaaGreatDoor
open Go Go.RowKit
theorem ne_decO2 {e : Int} (h : ¬ e = 0) : (e == 0) = false := beq_eq_false_iff_ne.2 h
theorem pop_any (k : Int) (hk : k = 4 ∨ k = 5 ∨ k = 6 ∨ k = 7 ∨ k = 8) (rr nn : ByteArray) (dd : Int) (A : Option Addr) (c : Nat) (x y : Ex) (E : Ev) (day : Int) (w : World) (hin : Ex.In w (.mk k rr nn dd A c [x, y])) (hE : E.Inv w) (X Y : NR)
    (hX : X.1.size ≤ 1048576) (hY : Y.1.size ≤ 1048576)
    (hx : ∀ W, x.In W → E.Inv W → Calls Tryz.prog 51 #[evV day E, x.val] W (StE X.1 X.2 W))
    (hy : ∀ W, y.In W → E.Inv W → Calls Tryz.prog 51 #[evV day E, y.val] W (StE Y.1 Y.2 W)) :
    Calls Tryz.prog 51 #[evV day E, Ex.val (.mk k rr nn dd A c [x, y])] w (StE (opR k X Y).1 (opR k X Y).2 w) := by
  obtain ⟨va, ea⟩ := X
  obtain ⟨vb, eb⟩ := Y
  have k1 : (k == 1) = false := by rw [beq_eq_false_iff_ne]; omega
  have k2 : (k == 2) = false := by rw [beq_eq_false_iff_ne]; omega
  have k3 : (k == 3) = false := by rw [beq_eq_false_iff_ne]; omega
  have k9 : (k == 9) = false := by rw [beq_eq_false_iff_ne]; omega
  unfold opR
  by_cases h1 : ea = 0
  · subst h1
    rw [if_neg (by simp)]
    by_cases h2 : eb = 0
    · subst h2
      rw [if_neg (by simp)]
      have hq : ∀ W, Ex.In W (.mk k rr nn dd A c [x, y]) → E.Inv W → Calls Tryz.prog 90 #[evV day E, Ex.val (.mk k rr nn dd A c [x, y])] W (PrE va vb 0 W) := fun W i1 i2 => ppair_ok k va vb rr nn dd A c x y E day W i1 i2 hx hy
      have e := opN_err k va vb
      clear k1 k2 k3 k9
      rcases hk with rfl | rfl | rfl | rfl | rfl
      · exact pnum_4 va vb _ _ rr nn dd A c [x, y] E day w hin hE hq (fun W hW => pp_sum va vb _ _ W (fun V hV => radd_any va vb hX hY V ((hE.below hW).below hV).v))
      · exact pnum_5 va vb _ _ rr nn dd A c [x, y] E day w hin hE hq (fun W hW => pp_difference va vb _ _ W (fun V hV => rsub_any va vb hX hY V ((hE.below hW).below hV).v))
      · exact pnum_6 va vb _ _ rr nn dd A c [x, y] E day w hin hE hq (fun W hW => pp_product va vb _ _ W (fun V hV => rmul_any va vb hX hY V ((hE.below hW).below hV).v))
      all_goals clear e
      all_goals have ho := fun W (hW : VarR W) => rcompare_any va vb hX hY W hW
      · refine pnum_7 va vb _ _ rr nn dd A c [x, y] E day w hin hE hq (fun W hW => ?_)
        have ho := fun V (hV : Below W.heap.size W V) => ho V ((hE.below hW).below hV).v
        by_cases h : twC comC va.data.toList vb.data.toList = 0
        · by_cases hr : twK va.data.toList vb.data.toList < 0
          · have q : opN 7 va vb = (vb, 0) := by unfold opN; rw [if_neg (by decide), if_neg (by decide), if_neg (by decide), if_pos h, if_pos (.inl ⟨rfl, hr⟩)]
            rw [q]
            simp only [h] at ho
            exact pp_greater_b va vb _ W (decide_eq_true hr) ho
          · have q : opN 7 va vb = (va, 0) := by unfold opN; rw [if_neg (by decide), if_neg (by decide), if_neg (by decide), if_pos h, if_neg (by rintro (⟨-, g⟩ | ⟨g, -⟩) <;> first | exact hr g | exact absurd g (by decide))]
            rw [q]
            simp only [h] at ho
            exact pp_greater_a va vb _ W (decide_eq_false hr) ho
        · have q : opN 7 va vb = (⟨#[]⟩, twC comC va.data.toList vb.data.toList) := by unfold opN; rw [if_neg (by decide), if_neg (by decide), if_neg (by decide), if_neg h]
          rw [q]
          exact pp_greater_e va vb _ _ W (ne_decO h) ho
      · refine pnum_8 va vb _ _ rr nn dd A c [x, y] E day w hin hE hq (fun W hW => ?_)
        have ho := fun V (hV : Below W.heap.size W V) => ho V ((hE.below hW).below hV).v
        by_cases h : twC comC va.data.toList vb.data.toList = 0
        · by_cases hr : 0 < twK va.data.toList vb.data.toList
          · have q : opN 8 va vb = (vb, 0) := by unfold opN; rw [if_neg (by decide), if_neg (by decide), if_neg (by decide), if_pos h, if_pos (.inr ⟨rfl, hr⟩)]
            rw [q]
            simp only [h] at ho
            exact pp_smaller_b va vb _ W (decide_eq_true hr) ho
          · have q : opN 8 va vb = (va, 0) := by unfold opN; rw [if_neg (by decide), if_neg (by decide), if_neg (by decide), if_pos h, if_neg (by rintro (⟨g, -⟩ | ⟨-, g⟩) <;> first | exact hr g | exact absurd g (by decide))]
            rw [q]
            simp only [h] at ho
            exact pp_smaller_a va vb _ W (decide_eq_false hr) ho
        · have q : opN 8 va vb = (⟨#[]⟩, twC comC va.data.toList vb.data.toList) := by unfold opN; rw [if_neg (by decide), if_neg (by decide), if_neg (by decide), if_neg h]
          rw [q]
          exact pp_smaller_e va vb _ _ W (ne_decO h) ho
    · rw [if_pos h2]
      exact pnum_e k k1 k2 k3 k9 _ _ eb rr nn dd A c [x, y] E day w hin hE (fun W i1 i2 => ppair_e2 k va vb eb rr nn dd A c x y E day W i1 i2 hx hy (ne_decO h2)) (ne_decO h2)
  · rw [if_pos h1]
    exact pnum_e k k1 k2 k3 k9 _ _ ea rr nn dd A c [x, y] E day w hin hE (fun W i1 i2 => ppair_e1 k va ea rr nn dd A c x y E day W i1 i2 hx (ne_decO h1)) (ne_decO h1)
theorem pcp_any (k : Int) (hk : k = 11 ∨ k = 12) (rr nn : ByteArray) (dd : Int) (A : Option Addr) (c : Nat) (x y : Ex) (E : Ev) (day : Int) (w : World) (hin : Ex.In w (.mk k rr nn dd A c [x, y])) (hE : E.Inv w) (X Y : NR)
    (hX : X.1.size ≤ 1048576) (hY : Y.1.size ≤ 1048576)
    (hx : ∀ W, x.In W → E.Inv W → Calls Tryz.prog 51 #[evV day E, x.val] W (StE X.1 X.2 W))
    (hy : ∀ W, y.In W → E.Inv W → Calls Tryz.prog 51 #[evV day E, y.val] W (StE Y.1 Y.2 W)) :
    Calls Tryz.prog 52 #[evV day E, Ex.val (.mk k rr nn dd A c [x, y])] w (TrE (cpR k X Y).1 (cpR k X Y).2 w) := by
  obtain ⟨va, ea⟩ := X
  obtain ⟨vb, eb⟩ := Y
  have k1 : (k == 13) = false := by rw [beq_eq_false_iff_ne]; omega
  have k2 : (k == 14) = false := by rw [beq_eq_false_iff_ne]; omega
  have k3 : (k == 15) = false := by rw [beq_eq_false_iff_ne]; omega
  unfold cpR
  by_cases h1 : ea = 0
  · subst h1
    rw [if_neg (by simp)]
    by_cases h2 : eb = 0
    · subst h2
      rw [if_neg (by simp)]
      have hq : ∀ W, Ex.In W (.mk k rr nn dd A c [x, y]) → E.Inv W → Calls Tryz.prog 90 #[evV day E, Ex.val (.mk k rr nn dd A c [x, y])] W (PrE va vb 0 W) := fun W i1 i2 => ppair_ok k va vb rr nn dd A c x y E day W i1 i2 hx hy
      have ho := fun W (hW : VarR W) => rcompare_any va vb hX hY W hW
      unfold cpT
      simp only
      clear k1 k2 k3
      generalize twK va.data.toList vb.data.toList = K at *
      generalize twC comC va.data.toList vb.data.toList = e at *
      rcases hk with rfl | rfl
      · refine ptru_11 va vb _ _ rr nn dd A c [x, y] E day w hin hE hq (fun W hW => ?_)
        have ho := fun V (hV : Below W.heap.size W V) => ho V ((hE.below hW).below hV).v
        by_cases h : e = 0
        · subst h
          rw [if_pos rfl]
          by_cases hr : K < 0
          · rw [decide_eq_true (.inl ⟨rfl, hr⟩)]
            exact pp_less_t va vb _ W (decide_eq_true hr) ho
          · rw [decide_eq_false (by rintro (⟨-, g⟩ | ⟨g, -⟩) <;> first | exact hr g | exact absurd g (by decide))]
            exact pp_less_f va vb _ W (decide_eq_false hr) ho
        · rw [if_neg h]
          exact pp_less_e va vb _ _ W (ne_decO2 h) ho
      · refine ptru_12 va vb _ _ rr nn dd A c [x, y] E day w hin hE hq (fun W hW => ?_)
        have ho := fun V (hV : Below W.heap.size W V) => ho V ((hE.below hW).below hV).v
        by_cases h : e = 0
        · subst h
          rw [if_pos rfl]
          by_cases hr : K = 0
          · rw [decide_eq_true (.inr ⟨rfl, hr⟩)]
            exact pp_equal_t va vb _ W (by simp [hr]) ho
          · rw [decide_eq_false (by rintro (⟨g, -⟩ | ⟨-, g⟩) <;> first | exact hr g | exact absurd g (by decide))]
            exact pp_equal_f va vb _ W (by simp [hr]) ho
        · rw [if_neg h]
          exact pp_equal_e va vb _ _ W (ne_decO2 h) ho
    · rw [if_pos h2]
      exact ptru_e k k1 k2 k3 _ _ eb rr nn dd A c [x, y] E day w hin hE (fun W i1 i2 => ppair_e2 k va vb eb rr nn dd A c x y E day W i1 i2 hx hy (ne_decO h2)) (ne_decO h2)
  · rw [if_pos h1]
    exact ptru_e k k1 k2 k3 _ _ ea rr nn dd A c [x, y] E day w hin hE (fun W i1 i2 => ppair_e1 k va ea rr nn dd A c x y E day W i1 i2 hx (ne_decO h1)) (ne_decO h1)
theorem cpT_err (k : Int) (a b : ByteArray) (h : (cpT k a b).2 ≠ 0) : (cpT k a b).1 = false := by
  unfold cpT at h ⊢
  split
  · next g => rw [if_pos g] at h; exact absurd rfl h
  · rfl
theorem evT_err (k : Int) (l : List (NR × TR)) (ih : ∀ i, ((l.getD i zNT).2.2 ≠ 0 → (l.getD i zNT).2.1 = false)) (h : (evT k l).2 ≠ 0) : (evT k l).1 = false := by
  unfold evT at h ⊢
  split at h
  · next g =>
    rw [if_pos g]
    unfold ntR at h ⊢
    split at h
    · next g => rw [if_pos g]
    · exact absurd rfl h
  next g1 =>
  rw [if_neg g1]
  split at h
  · next g =>
    rw [if_pos g]
    unfold anR at h ⊢
    split at h
    · next g => rw [if_pos g]
    next g2 =>
    rw [if_neg g2]
    split at h
    · exact absurd rfl h
    next g3 =>
    rw [if_neg g3]
    exact ih 1 h
  next g2 =>
  rw [if_neg g2]
  unfold cpR at h ⊢
  split at h
  · next g => rw [if_pos g]
  next g3 =>
  rw [if_neg g3]
  split at h
  · next g => rw [if_pos g]
  next g4 =>
  rw [if_neg g4]
  exact cpT_err _ _ _ h
theorem Ex.ev_tru_err (fs : List Fx) (day : Int) (t : Ex) (h : (t.ev fs day).2.2 ≠ 0) : (t.ev fs day).2.1 = false := by
  induction t using Ex.ind with
  | h k r n d A c s ih =>
  rw [Ex.ev_mk] at h ⊢
  refine evT_err k _ (fun i hi => ?_) h
  rw [List.getD_eq_getElem?_getD, List.getElem?_map] at hi ⊢
  rcases Nat.lt_or_ge i s.length with g | g
  · rw [List.getElem?_eq_getElem g] at hi ⊢
    exact ih _ (List.getElem_mem g) hi
  · rw [List.getElem?_eq_none g] at hi; exact absurd rfl hi
theorem peval_any (E : Ev) (day : Int) (hsf : ∀ f ∈ E.fs, f.2.2.size ≤ 1048576) (T : Ex) : ∀ (w : World), T.In w → E.Inv w → T.byt ≤ 12000 →
    (T.srt = 1 → Calls Tryz.prog 51 #[evV day E, T.val] w (StE (T.ev E.fs day).1.1 (T.ev E.fs day).1.2 w)) ∧
    (T.srt = 2 → Calls Tryz.prog 52 #[evV day E, T.val] w (TrE (T.ev E.fs day).2.1 (T.ev E.fs day).2.2 w)) := by
  induction T using Ex.ind with
  | h k rr nn dd A c s ih =>
  intro w hin hE hby
  have hb : ∀ t ∈ s, t.byt ≤ 12000 := fun t ht => Nat.le_trans (Ex.byt_sub (k := k) (r := rr) (n := nn) (d := dd) (A := A) (c := c) ht) hby
  have hz : ∀ t ∈ s, (t.ev E.fs day).1.1.size ≤ 1048576 := fun t ht => Ex.ev_size hsf day t (hb t ht)
  have hN : ∀ t ∈ s, t.srt = 1 → ∀ W, t.In W → E.Inv W → Calls Tryz.prog 51 #[evV day E, t.val] W (StE (t.ev E.fs day).1.1 (t.ev E.fs day).1.2 W) := fun t ht h1 W h2 h3 => (ih t ht W h2 h3 (hb t ht)).1 h1
  have hT : ∀ t ∈ s, t.srt = 2 → ∀ W, t.In W → E.Inv W → Calls Tryz.prog 52 #[evV day E, t.val] W (TrE (t.ev E.fs day).2.1 (t.ev E.fs day).2.2 W) := fun t ht h1 W h2 h3 => (ih t ht W h2 h3 (hb t ht)).2 h1
  clear ih hby hb
  constructor
  · intro hs
    rcases srt_num hs with ⟨h, rfl⟩ | ⟨h, x, y, rfl, s1, s2⟩ | ⟨rfl, x, y, z, rfl, s1, s2, s3⟩
    · rcases h with rfl | rfl | rfl
      · rw [ev_1]; exact pnum_1 rr nn dd A c [] E day w hE
      · rw [ev_2]; exact pnum_2 rr nn dd A c [] E day w hE
      · rw [ev_3]; exact pnum_3 rr nn dd A c [] E day w hE
    · rw [ev_op _ _ _ _ _ _ _ (by omega) (by omega)]
      exact pop_any k h rr nn dd A c x y E day w hin hE _ _ (hz x (by simp)) (hz y (by simp)) (hN x (by simp) s1) (hN y (by simp) s2)
    · rw [ev_9]
      have hx := hT x (by simp) s1
      have hy := hN y (by simp) s2
      have hq := hN z (by simp) s3
      generalize (x.ev E.fs day).2 = p at *
      obtain ⟨ba, ea⟩ := p
      unfold whR
      by_cases h1 : ea = 0
      · subst h1
        rw [if_neg (by simp)]
        cases ba
        · rw [if_neg (by simp)]
          exact pnum_9 _ _ rr nn dd A c [x, y, z] E day w hin hE (fun W i1 i2 => pcho_f _ _ rr nn dd A c x y z E day W i1 i2 hx hq)
        · rw [if_pos rfl]
          exact pnum_9 _ _ rr nn dd A c [x, y, z] E day w hin hE (fun W i1 i2 => pcho_t _ _ rr nn dd A c x y z E day W i1 i2 hx hy)
      · rw [if_pos h1]
        exact pnum_9 _ _ rr nn dd A c [x, y, z] E day w hin hE (fun W i1 i2 => pcho_e ba ea rr nn dd A c x y z E day W i1 i2 hx (ne_decO h1))
  · intro hs
    rcases srt_tru hs with ⟨h, x, y, rfl, s1, s2⟩ | ⟨h, x, y, rfl, s1, s2⟩ | ⟨rfl, x, rfl, s1⟩
    · rw [ev_cp _ _ _ _ _ _ _ (by omega) (by omega)]
      exact pcp_any k h rr nn dd A c x y E day w hin hE _ _ (hz x (by simp)) (hz y (by simp)) (hN x (by simp) s1) (hN y (by simp) s2)
    · rw [ev_an _ _ _ _ _ _ _ (by omega) (by omega)]
      have hx := hT x (by simp) s1
      have hy := hT y (by simp) s2
      have he := Ex.ev_tru_err E.fs day x
      generalize (x.ev E.fs day).2 = p at *
      generalize (y.ev E.fs day).2 = q at *
      obtain ⟨ba, ea⟩ := p
      obtain ⟨bb, eb⟩ := q
      unfold anR
      by_cases h1 : ea = 0
      · subst h1
        rw [if_neg (by simp)]
        rcases h with rfl | rfl <;> cases ba
        · exact ptru_13 _ _ rr nn dd A c [x, y] E day w hin hE (fun W i1 i2 => pboth_s rr nn dd A c x y E day W i1 i2 hx)
        · exact ptru_13 _ _ rr nn dd A c [x, y] E day w hin hE (fun W i1 i2 => pboth_l _ _ rr nn dd A c x y E day W i1 i2 hx hy)
        · exact ptru_14 _ _ rr nn dd A c [x, y] E day w hin hE (fun W i1 i2 => peith_l _ _ rr nn dd A c x y E day W i1 i2 hx hy)
        · exact ptru_14 _ _ rr nn dd A c [x, y] E day w hin hE (fun W i1 i2 => peith_s rr nn dd A c x y E day W i1 i2 hx)
      · rw [if_pos h1]
        obtain rfl : ba = false := he h1
        rcases h with rfl | rfl
        · exact ptru_13 _ _ rr nn dd A c [x, y] E day w hin hE (fun W i1 i2 => pboth_e ea rr nn dd A c x y E day W i1 i2 hx (ne_decO h1))
        · exact ptru_14 _ _ rr nn dd A c [x, y] E day w hin hE (fun W i1 i2 => peith_e ea rr nn dd A c x y E day W i1 i2 hx (ne_decO h1))
    · rw [ev_nt]
      have hx := hT x (by simp) s1
      generalize (x.ev E.fs day).2 = p at *
      obtain ⟨ba, ea⟩ := p
      unfold ntR
      by_cases h1 : ea = 0
      · subst h1
        rw [if_neg (by simp)]
        exact ptru_15 _ _ rr nn dd A c [x] E day w hin hE (fun W i1 i2 => pnot_o ba rr nn dd A c x E day W i1 i2 hx)
      · rw [if_pos h1]
        exact ptru_15 _ _ rr nn dd A c [x] E day w hin hE (fun W i1 i2 => pnot_e ba ea rr nn dd A c x E day W i1 i2 hx (ne_decO2 h1))
end Go.Proofs.YtbfimfjhdbpenaaGreatDoor
/- Layer 8: asked, Value, Holds of the reference; checkEvaluation, Value, Holds of the program: a theorem for each way. -/
namespace Go.Proofs.YtbfimfjhdbpenaaGreatDoor
open Go Go.RowKit Go.BigFrame
set_option maxRecDepth 100000 in
set_option maxHeartbeats 12800000 in
theorem chkev_all (s kc sr ec R : Int) (bd : Bool) (T : Ex) (E : Ev) (day : Int) (w : World) (hin : T.In w) (hE : E.Inv w) (hc : ∀ W, T.In W → E.Inv W → Calls Tryz.prog 13 #[T.val] W (fun e w' => e = .returned (.int .i64 kc) ∧ Below W.heap.size W w')) (hs : ∀ W, T.In W → E.Inv W → Calls Tryz.prog 49 #[T.val] W (fun e w' => e = .returned (.int .u8 sr) ∧ Below W.heap.size W w')) (he : ∀ W, T.In W → E.Inv W → Calls Tryz.prog 22 #[E.val] W (fun e w' => e = .returned (.int .i64 ec) ∧ Below W.heap.size W w')) (hd : ∀ W, T.In W → E.Inv W → Calls Tryz.prog 87 #[.int .i64 day] W (fun e w' => e = .returned (.bool bd) ∧ Below W.heap.size W w')) (key : ((kc != 0) = true ∧ R = kc) ∨ (kc = 0 ∧ (sr != s) = true ∧ R = 32) ∨ (kc = 0 ∧ (sr != s) = false ∧ (ec != 0) = true ∧ R = ec) ∨ (kc = 0 ∧ (sr != s) = false ∧ ec = 0 ∧ bd = false ∧ R = 2) ∨ (kc = 0 ∧ (sr != s) = false ∧ ec = 0 ∧ bd = true ∧ R = 0)) :
    Calls Tryz.prog 50 #[T.val, .int .u8 s, .int .i64 day, E.val] w (IntRO R w) := by
  obtain ⟨fA, fs, fc, cA, cs, cc⟩ := E
  obtain ⟨w1, hw1, hB, hS⟩ := rv_begin w T.k T.r T.n T.d T.A T.sub.length T.c fA fs.length fc cA cs.length cc
  have HB := Lib.hid hB
  have HG := Lib.hid (fun W (hW : Below w1.heap.size w1 W) => hS.below hW)
  have Hc := Lib.hid (fun W (hW : Below w1.heap.size w1 W) => hc W (hin.below (btO hB hW)) (hE.below (btO hB hW)))
  have Hs := Lib.hid (fun W (hW : Below w1.heap.size w1 W) => hs W (hin.below (btO hB hW)) (hE.below (btO hB hW)))
  have He := Lib.hid (fun W (hW : Below w1.heap.size w1 W) => he W (hin.below (btO hB hW)) (hE.below (btO hB hW)))
  have Hd := Lib.hid (fun W (hW : Below w1.heap.size w1 W) => hd W (hin.below (btO hB hW)) (hE.below (btO hB hW)))
  have HW1 := Lib.hid (Below.refl w1.heap.size w1)
  show Calls Tryz.prog 50 #[.agg #[.int .u8 T.k, .string T.r, .string T.n, .int .i64 T.d, .slice T.A T.sub.length T.c], .int .u8 s, .int .i64 day, .agg #[.slice fA fs.length fc, .slice cA cs.length cc]] w _
  clear hin hE hB hS hc hs he hd
  obtain ⟨c0, c1, c2, c3, c4, e0, e1⟩ := HG.out _ HW1.out
  rcases key with ⟨q1, rfl⟩ | ⟨rfl, q2, rfl⟩ | ⟨rfl, q2, q3, rfl⟩ | ⟨rfl, q2, rfl, rfl, rfl⟩ | ⟨rfl, q2, rfl, rfl, rfl⟩
  all_goals go_enter Tryz.func50, Tryz.ntmps50
  all_goals go_wp2_with (first
    | (go_at_call 87; have _t := HW4; ((with_reducible refine (Hd.out _ HW4.out).mono ?_); rintro x w5 ⟨rfl, hb⟩; have HW5 := Lib.hid (btO HW4.out hb); obtain ⟨c0, c1, c2, c3, c4, e0, e1⟩ := HG.out _ HW5.out; clear hb))
    | (go_at_call 22; have _t := HW3; ((with_reducible refine (He.out _ HW3.out).mono ?_); rintro x w4 ⟨rfl, hb⟩; have HW4 := Lib.hid (btO HW3.out hb); obtain ⟨c0, c1, c2, c3, c4, e0, e1⟩ := HG.out _ HW4.out; clear hb))
    | (go_at_call 49; have _t := HW2; ((with_reducible refine (Hs.out _ HW2.out).mono ?_); rintro x w3 ⟨rfl, hb⟩; have HW3 := Lib.hid (btO HW2.out hb); obtain ⟨c0, c1, c2, c3, c4, e0, e1⟩ := HG.out _ HW3.out; clear hb))
    | (go_at_call 13; have _t := HW1; ((with_reducible refine (Hc.out _ HW1.out).mono ?_); rintro x w2 ⟨rfl, hb⟩; have HW2 := Lib.hid (btO HW1.out hb); obtain ⟨c0, c1, c2, c3, c4, e0, e1⟩ := HG.out _ HW2.out; clear hb)))
  all_goals go_ret
  all_goals exact ⟨rfl, btO HB.out (by first | exact HW5.out | exact HW4.out | exact HW3.out | exact HW2.out)⟩
set_option maxRecDepth 100000 in
set_option maxHeartbeats 12800000 in
theorem pvalue_all (V : ByteArray) (ea F : Int) (T : Ex) (E : Ev) (day : Int) (w : World) (hin : T.In w) (hE : E.Inv w) (ha : ∀ W, T.In W → E.Inv W → Calls Tryz.prog 50 #[T.val, .int .u8 1, .int .i64 day, E.val] W (fun e w' => e = .returned (.int .i64 ea) ∧ Below W.heap.size W w')) (key : ((ea != 0) = true ∧ V = ⟨#[]⟩ ∧ F = ea)) :
    Calls Tryz.prog 17 #[T.val, .int .i64 day, E.val] w (StE V F w) := by
  obtain ⟨fA, fs, fc, cA, cs, cc⟩ := E
  obtain ⟨w1, hw1, hB, hS⟩ := rv_begin w T.k T.r T.n T.d T.A T.sub.length T.c fA fs.length fc cA cs.length cc
  have HB := Lib.hid hB
  have HG := Lib.hid (fun W (hW : Below w1.heap.size w1 W) => hS.below hW)
  have Ha := Lib.hid (fun W (hW : Below w1.heap.size w1 W) => ha W (hin.below (btO hB hW)) (hE.below (btO hB hW)))
  have HW1 := Lib.hid (Below.refl w1.heap.size w1)
  show Calls Tryz.prog 17 #[.agg #[.int .u8 T.k, .string T.r, .string T.n, .int .i64 T.d, .slice T.A T.sub.length T.c], .int .i64 day, .agg #[.slice fA fs.length fc, .slice cA cs.length cc]] w _
  clear hin hE hB hS ha
  obtain ⟨c0, c1, c2, c3, c4, e0, e1⟩ := HG.out _ HW1.out
  obtain ⟨q1, rfl, rfl⟩ := key
  all_goals go_enter Tryz.func17, Tryz.ntmps17
  all_goals go_wp2_with (first
    | (go_at_call 50; have _t := HW1; ((with_reducible refine (Ha.out _ HW1.out).mono ?_); rintro x w2 ⟨rfl, hb⟩; have HW2 := Lib.hid (btO HW1.out hb); obtain ⟨c0, c1, c2, c3, c4, e0, e1⟩ := HG.out _ HW2.out; clear hb)))
  all_goals go_ret2
  all_goals exact ⟨rfl, btO HB.out (by first | exact HW2.out)⟩
set_option maxRecDepth 100000 in
set_option maxHeartbeats 12800000 in
theorem pvalue_o (v : ByteArray) (er : Int) (T : Ex) (E : Ev) (day : Int) (w : World) (hin : T.In w) (hE : E.Inv w) (ha : ∀ W, T.In W → E.Inv W → Calls Tryz.prog 50 #[T.val, .int .u8 1, .int .i64 day, E.val] W (fun e w' => e = .returned (.int .i64 0) ∧ Below W.heap.size W w')) (hv : ∀ W, T.In W → E.Inv W → Calls Tryz.prog 51 #[evV day E, T.val] W (fun e w' => e = .returned (.tuple #[.string v, .int .i64 er]) ∧ Below W.heap.size W w')) (key : (True)) :
    Calls Tryz.prog 17 #[T.val, .int .i64 day, E.val] w (StE v er w) := by
  obtain ⟨fA, fs, fc, cA, cs, cc⟩ := E
  obtain ⟨w1, hw1, hB, hS⟩ := rv_begin w T.k T.r T.n T.d T.A T.sub.length T.c fA fs.length fc cA cs.length cc
  have HB := Lib.hid hB
  have HG := Lib.hid (fun W (hW : Below w1.heap.size w1 W) => hS.below hW)
  have Ha := Lib.hid (fun W (hW : Below w1.heap.size w1 W) => ha W (hin.below (btO hB hW)) (hE.below (btO hB hW)))
  have Hv := Lib.hid (fun W (hW : Below w1.heap.size w1 W) => hv W (hin.below (btO hB hW)) (hE.below (btO hB hW)))
  have HW1 := Lib.hid (Below.refl w1.heap.size w1)
  show Calls Tryz.prog 17 #[.agg #[.int .u8 T.k, .string T.r, .string T.n, .int .i64 T.d, .slice T.A T.sub.length T.c], .int .i64 day, .agg #[.slice fA fs.length fc, .slice cA cs.length cc]] w _
  clear hin hE hB hS ha hv
  obtain ⟨c0, c1, c2, c3, c4, e0, e1⟩ := HG.out _ HW1.out
  clear key
  all_goals go_enter Tryz.func17, Tryz.ntmps17
  all_goals go_wp2_with (first
    | (go_at_call 51; have _t := HW2; ((with_reducible refine (Hv.out _ HW2.out).mono ?_); rintro x w3 ⟨rfl, hb⟩; have HW3 := Lib.hid (btO HW2.out hb); obtain ⟨c0, c1, c2, c3, c4, e0, e1⟩ := HG.out _ HW3.out; clear hb))
    | (go_at_call 50; have _t := HW1; ((with_reducible refine (Ha.out _ HW1.out).mono ?_); rintro x w2 ⟨rfl, hb⟩; have HW2 := Lib.hid (btO HW1.out hb); obtain ⟨c0, c1, c2, c3, c4, e0, e1⟩ := HG.out _ HW2.out; clear hb)))
  all_goals go_ret2
  all_goals exact ⟨rfl, btO HB.out (by first | exact HW3.out | exact HW2.out)⟩
end Go.Proofs.YtbfimfjhdbpenaaGreatDoor
/- Layer 8: Value and Holds, both sides. -/
namespace Go.Proofs.YtbfimfjhdbpenaaGreatDoor
open Go Go.RowKit
def askE (t : Ex) (s day : Int) (fs : List Fx) (cs : List Cx) : Int :=
  if t.chk ≠ 0 then t.chk else if srtB t.k ≠ s then 32 else if envE fs cs ≠ 0 then envE fs cs else if dayO day = true then 0 else 2
theorem ne_decS {x s : Int} (h : ¬ x = s) : (x != s) = true := bne_iff_ne.2 h
def valN (t : Ex) (day : Int) (fs : List Fx) (cs : List Cx) : NR := if askE t 1 day fs cs ≠ 0 then (⟨#[]⟩, askE t 1 day fs cs) else (t.ev fs day).1
theorem Ex.srt_k {t : Ex} (h : t.chk = 0) : t.srt = srtB t.k := by
  have h1 := ((Ex.chk_zero t).1 h).2
  rcases srtB_01 t.k with h2 | h2 | h2
  · obtain ⟨k, r, n, d, A, c, s⟩ := t
    exfalso
    apply h1
    rw [Ex.srt_mk]
    exact srtF_no (fun g => g.1 h2)
  · rw [h2]; exact (Ex.srt_iff t 1 (.inl rfl)).2 ⟨h2, h1⟩
  · rw [h2]; exact (Ex.srt_iff t 2 (.inr rfl)).2 ⟨h2, h1⟩
theorem askE_zero {t : Ex} {s day : Int} {fs : List Fx} {cs : List Cx} (h : askE t s day fs cs = 0) : t.chk = 0 ∧ srtB t.k = s ∧ envE fs cs = 0 ∧ dayO day = true := by
  unfold askE at h
  split at h
  · next g => exact absurd h g
  next g1 =>
  split at h
  · cases h
  next g2 =>
  split at h
  · next g => exact absurd h g
  next g3 =>
  split at h
  · next g4 => exact ⟨by simpa using g1, by simpa using g2, by simpa using g3, g4⟩
  · cases h
theorem ask_key {t : Ex} (s : Int) {day : Int} {fs : List Fx} {cs : List Cx} (h1 : t.chk = 0) :
    ((t.chk != 0) = true ∧ askE t s day fs cs = t.chk) ∨ (t.chk = 0 ∧ (srtB t.k != s) = true ∧ askE t s day fs cs = 32) ∨ (t.chk = 0 ∧ (srtB t.k != s) = false ∧ (envE fs cs != 0) = true ∧ askE t s day fs cs = envE fs cs) ∨
      (t.chk = 0 ∧ (srtB t.k != s) = false ∧ envE fs cs = 0 ∧ dayO day = false ∧ askE t s day fs cs = 2) ∨ (t.chk = 0 ∧ (srtB t.k != s) = false ∧ envE fs cs = 0 ∧ dayO day = true ∧ askE t s day fs cs = 0) := by
  unfold askE
  rw [if_neg (by simpa using h1)]
  by_cases h2 : srtB t.k = s
  · have q2 : (srtB t.k != s) = false := by rw [bne_eq_false_iff_eq]; exact h2
    rw [if_neg (by simpa using h2)]
    by_cases h3 : envE fs cs = 0
    · rw [if_neg (by simpa using h3)]
      cases h4 : dayO day
      · exact .inr (.inr (.inr (.inl ⟨h1, q2, h3, rfl, rfl⟩)))
      · exact .inr (.inr (.inr (.inr ⟨h1, q2, h3, rfl, rfl⟩)))
    · rw [if_pos h3]
      exact .inr (.inr (.inl ⟨h1, q2, ne_decO h3, rfl⟩))
  · rw [if_pos h2]
    exact .inr (.inl ⟨h1, ne_decS h2, rfl⟩)
section
variable (T : Ex) (E : Ev) (day : Int) (w : World) (hin : T.In w) (hE : E.Inv w) (hz : T.siz ≤ 600) (hby : T.byt ≤ 12000) (hsf : ∀ f ∈ E.fs, f.2.2.size ≤ 1048576)
include hin hE hz hby hsf
theorem chkev_any (s : Int) : Calls Tryz.prog 50 #[T.val, .int .u8 s, .int .i64 day, E.val] w (IntRO (askE T s day E.fs E.cs) w) := by
  have _ := hz
  have hC : ∀ W, T.In W → E.Inv W → Calls Tryz.prog 13 #[T.val] W (IntRO T.chk W) := fun W h h2 => pcheck_anyO T W h hby h2.v
  have hS : ∀ W, T.In W → E.Inv W → Calls Tryz.prog 49 #[T.val] W (fun e w' => e = .returned (.int .u8 (srtB T.k)) ∧ Below W.heap.size W w') := fun W _ _ => sortOf_any T.k T.r T.n T.d T.A T.sub.length T.c W
  have hV : ∀ W, T.In W → E.Inv W → Calls Tryz.prog 22 #[E.val] W (IntRO (envE E.fs E.cs) W) := fun W _ h => pcheckEnv_any E W h.i h.v hsf
  have hD : ∀ W, T.In W → E.Inv W → Calls Tryz.prog 87 #[.int .i64 day] W (fun e w' => e = .returned (.bool (dayO day)) ∧ Below W.heap.size W w') := fun W _ _ => calls_bel (pday_any day W)
  refine chkev_all s _ _ _ _ _ T E day w hin hE hC hS hV hD ?_
  by_cases h1 : T.chk = 0
  · exact ask_key s h1
  · exact .inl ⟨ne_decO h1, by unfold askE; rw [if_pos h1]⟩
theorem pvalue_any : Calls Tryz.prog 17 #[T.val, .int .i64 day, E.val] w (StE (valN T day E.fs E.cs).1 (valN T day E.fs E.cs).2 w) := by
  have hA : ∀ W, T.In W → E.Inv W → Calls Tryz.prog 50 #[T.val, .int .u8 1, .int .i64 day, E.val] W (IntRO (askE T 1 day E.fs E.cs) W) := fun W h1 h2 => chkev_any T E day W h1 h2 hz hby hsf 1
  unfold valN
  by_cases h : askE T 1 day E.fs E.cs = 0
  · rw [if_neg (by simpa using h)]
    simp only [h] at hA
    obtain ⟨g1, g2, -, -⟩ := askE_zero h
    refine pvalue_o _ _ T E day w hin hE hA (fun W h1 h2 => (peval_any E day hsf T W h1 h2 hby).1 ((Ex.srt_k g1).trans g2)) trivial
  · rw [if_pos h]
    exact pvalue_all _ _ _ T E day w hin hE hA ⟨ne_decO h, rfl, rfl⟩
end
end Go.Proofs.YtbfimfjhdbpenaaGreatDoor
